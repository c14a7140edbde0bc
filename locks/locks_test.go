package locks

import (
	"testing"

	"drowse/api"
	"drowse/waitq"
)

// The rows of the chapter's section 'Examples'.
func TestExamples(t *testing.T) {
	r := made(t)
	m, w := hd(1, 1), hd(2, 1)
	r.make(m, api.KindMutex)
	r.make(w, api.KindGroup)
	r.lock(who(5), m, done())
	r.lock(who(6), m, parked())
	r.lock(who(7), m, parked())
	r.holds(m, who(5))
	r.unlock(m, woke(who(6)))
	r.holds(m, who(6))
	r.unlock(m, woke(who(7)))
	r.unlock(m, done())
	r.unlock(m, fatal(api.FatalUnlock))
	r.wait(who(5), w, done())
	r.add(w, 2, done())
	r.wait(who(5), w, parked())
	r.add(w, -1, done())
	r.add(w, -1, woke(who(5)))
	r.add(w, -1, fatal(api.FatalCounter))
	r.add(w, 1<<31, fatal(api.FatalCounter))
	r.add(w, -1<<63, fatal(api.FatalCounter))
	r.counts(w, 0)
	r.lock(who(5), none, fatal(api.FatalNilMutex))
	r.unlock(none, fatal(api.FatalNilMutex))
	r.wait(who(5), none, fatal(api.FatalNilGroup))
	r.add(none, 0, fatal(api.FatalNilGroup))
	r.wrongLock(who(5), w, api.ErrLocksHandle)
}

// P16.1: a nil book is no book; a new Locks has nothing; the book is kept, what waits there stays.
func TestNew(t *testing.T) {
	if l, err := New(nil); l != nil || err != api.ErrArg {
		t.Fatalf("New(nil): %v, %v", l, err)
	}
	b := waitq.New()
	b.Put(row(hd(1, 1), api.SideLock), who(5), 3, num(6))
	l, err := New(b)
	if l == nil || err != api.OK || l.Count() != 0 || l.Kind(hd(1, 1)) != 0 || l.Kind(none) != 0 || b.Count() != 1 {
		t.Fatalf("New: %v, %v, %d waits", l, err, b.Count())
	}
	r := &rig{t: t, b: b, l: l}
	r.make(hd(1, 1), api.KindMutex)
	r.lock(who(6), hd(1, 1), done())
	r.lock(who(7), hd(1, 1), parked())
	r.unlock(hd(1, 1), wokeArm(who(5), 3))
	r.waits(wants(who(7), hd(1, 1)))
}

// P16.1: two Locks have their own mutexes, and who waits for one's stands in the book that both have.
func TestTwoOfOneBook(t *testing.T) {
	m := hd(1, 1)
	r := held(t, who(5))
	other, err := New(r.b)
	if err != api.OK || other.Count() != 0 || other.Kind(m) != 0 {
		t.Fatalf("New: %v, %d", err, other.Count())
	}
	if err := other.Make(m, api.KindGroup); err != api.OK || r.l.Kind(m) != api.KindMutex {
		t.Fatalf("Make: %v, Kind %d", err, r.l.Kind(m))
	}
	if d, err := other.Add(m, 1); err != api.OK || !sameDid(d, done()) {
		t.Fatalf("Add: %v, %v", d, err)
	}
	if d, err := other.Wait(who(6), m); err != api.OK || !sameDid(d, parked()) {
		t.Fatalf("Wait: %v, %v", d, err)
	}
	r.wrongLock(who(6), m, api.ErrLocksWaits)
	r.waits(joins(who(6), m))
	if d, err := other.Add(m, -1); err != api.OK || !sameDid(d, woke(who(6))) {
		t.Fatalf("Add: %v, %v", d, err)
	}
	r.holds(m, who(5))
}

// P16.1: Make's errors, and which is told first; a handle is free for the other kind when its thing is gone.
func TestMake(t *testing.T) {
	r := made(t)
	for _, kind := range []api.Kind{-1 << 31, -1, 0, api.KindChan, 4, 1 << 31} {
		r.wrongMake(hd(1, 1), kind, api.ErrArg)
		r.wrongMake(none, kind, api.ErrArg)
	}
	kinds := []api.Kind{api.KindMutex, api.KindGroup}
	for _, kind := range kinds {
		r.wrongMake(none, kind, api.ErrArg)
	}
	r.make(hd(1, 1), api.KindMutex)
	r.make(hd(2, 1), api.KindGroup)
	r.make(hd(1, 2), api.KindGroup)
	for _, h := range []api.Handle{hd(1, 1), hd(2, 1), hd(1, 2)} {
		r.wrongMake(h, api.KindChan, api.ErrArg)
		for _, kind := range kinds {
			r.wrongMake(h, kind, api.ErrLocksThere)
		}
	}
	r.holds(hd(1, 1), none)
	r.counts(hd(2, 1), 0)
	r.drop(hd(1, 1))
	r.make(hd(1, 1), api.KindGroup)
	r.counts(hd(1, 1), 0)
}

// P16.1: what is made anew is free, or has the counter 0, whatever was there.
func TestMakeAgain(t *testing.T) {
	r := held(t, who(5))
	r.drop(hd(1, 1))
	r.make(hd(1, 1), api.KindMutex)
	r.holds(hd(1, 1), none)
	r.make(hd(2, 1), api.KindGroup)
	r.add(hd(2, 1), 7, done())
	r.drop(hd(2, 1))
	r.make(hd(2, 1), api.KindGroup)
	r.counts(hd(2, 1), 0)
	r.wait(who(6), hd(2, 1), done())
}

// P16.1: a handle that is not none names a thing, whatever its numbers are; each has its own.
func TestMakeMany(t *testing.T) {
	r := made(t)
	handles := []api.Handle{hd(1, 0), hd(0, 1), hd(1<<32-1, 1<<32-1), hd(1<<32-1, 0)}
	for n := range uint32(300) {
		handles = append(handles, hd(n%20+1, n/20+1))
	}
	kinds := []api.Kind{api.KindMutex, api.KindGroup}
	for n, h := range handles {
		r.make(h, kinds[n%2])
		if n%2 == 0 {
			r.lock(who(n+1), h, done())
		} else {
			r.add(h, int64(n), done())
		}
	}
	for n, h := range handles {
		if n%2 == 0 {
			r.holds(h, who(n+1))
		} else {
			r.counts(h, n)
		}
	}
	for n, h := range handles {
		if n%3 == 0 {
			r.drop(h)
			r.wrongDrop(h, api.ErrLocksHandle)
		}
	}
	for n, h := range handles {
		want := kinds[n%2]
		if n%3 == 0 {
			want = 0
		}
		if r.l.Kind(h) != want {
			t.Errorf("Kind(%v): %d, want %d", h, r.l.Kind(h), want)
		}
	}
}

// P16.1: what is held, or has a counter, is dropped; what somebody waits for is not.
func TestDrop(t *testing.T) {
	m, w := hd(1, 1), hd(2, 1)
	r := held(t, who(5))
	r.make(w, api.KindGroup)
	r.add(w, 3, done())
	r.lock(who(6), m, parked())
	r.wait(who(7), w, parked())
	r.wrongDrop(m, api.ErrLocksWaits)
	r.wrongDrop(w, api.ErrLocksWaits)
	r.unlock(m, woke(who(6)))
	r.drop(m)
	r.wrongDrop(w, api.ErrLocksWaits)
	r.b.Leave(who(7))
	r.drop(w)
	for _, h := range []api.Handle{none, m, w, hd(9, 9), hd(1, 2)} {
		r.wrongDrop(h, api.ErrLocksHandle)
	}
}

// keeps is what Drop answers of one of a kind, where somebody else waits at that side of its handle.
var keeps = []struct {
	kind api.Kind
	side api.Side
	want api.Errno
}{
	{api.KindMutex, api.SideSend, api.OK},
	{api.KindMutex, api.SideRecv, api.OK},
	{api.KindMutex, api.SideLock, api.ErrLocksWaits},
	{api.KindMutex, api.SideJoin, api.OK},
	{api.KindGroup, api.SideSend, api.OK},
	{api.KindGroup, api.SideRecv, api.OK},
	{api.KindGroup, api.SideLock, api.OK},
	{api.KindGroup, api.SideJoin, api.ErrLocksWaits},
}

// P16.1: lockers are what a mutex has, joiners what a wait group has, whoever put them there; waits of other rows keep nothing there, and stay.
func TestDropWaitsOfOthers(t *testing.T) {
	x := hd(3, 1)
	for _, k := range keeps {
		for _, crowd := range []bool{false, true} {
			r := made(t)
			r.make(x, k.kind)
			r.put(row(x, k.side), who(5), 0, num(1))
			if crowd {
				r.elsewhere(x)
			}
			r.dropOr(x, k.want)
		}
	}
}

// P16.1: as above, where what is dropped is held or has a counter.
func TestDropUsedWaitsOfOthers(t *testing.T) {
	x := hd(3, 1)
	for _, k := range keeps {
		r := made(t)
		r.make(x, k.kind)
		if k.kind == api.KindMutex {
			r.lock(who(4), x, done())
		} else {
			r.add(x, 2, done())
		}
		r.put(row(x, k.side), who(5), 9, num(1))
		r.dropOr(x, k.want)
	}
}

// P16.1: who waits at all sides of a handle keeps it by the one that is its own; without that one the others keep nothing.
func TestDropWaitsAtAllSides(t *testing.T) {
	x := hd(3, 1)
	for kind, own := range map[api.Kind]api.Side{api.KindMutex: api.SideLock, api.KindGroup: api.SideJoin} {
		r := made(t)
		r.make(x, kind)
		for side := api.SideSend; side <= api.SideJoin; side++ {
			r.put(row(x, side), who(int(side)), int(side), num(1))
		}
		r.wrongDrop(x, api.ErrLocksWaits)
		r.b.Leave(who(int(own)))
		r.drop(x)
		if r.b.Count() != 3 {
			t.Errorf("kind %d: %d waits are left", kind, r.b.Count())
		}
	}
}

// elsewhere lets others wait at all sides of handles that are not x.
func (r *rig) elsewhere(x api.Handle) {
	r.t.Helper()
	for i, h := range []api.Handle{none, hd(x.Slot, x.Gen+1), hd(x.Slot+1, x.Gen)} {
		for side := api.SideSend; side <= api.SideJoin; side++ {
			r.put(row(h, side), who(6+i), int(side), num(1))
		}
	}
}

// dropOr drops x, if want is OK; else it is asked to, and refuses.
func (r *rig) dropOr(x api.Handle, want api.Errno) {
	r.t.Helper()
	if want == api.OK {
		r.drop(x)
		return
	}
	r.wrongDrop(x, want)
	r.b.Leave(who(5))
	r.drop(x)
}

// P16.1: a handle that nothing has is no kind, and who waits there makes none.
func TestKind(t *testing.T) {
	r := made(t)
	r.make(hd(1, 1), api.KindMutex)
	r.make(hd(2, 2), api.KindGroup)
	r.put(row(hd(3, 3), api.SideLock), who(5), 0, num(1))
	r.put(row(none, api.SideJoin), who(5), 1, num(1))
	for _, h := range []api.Handle{none, hd(1, 2), hd(2, 1), hd(0, 1), hd(1, 0), hd(3, 3)} {
		if k := r.l.Kind(h); k != 0 {
			t.Errorf("Kind(%v): %d", h, k)
		}
	}
	if a, b := r.l.Kind(hd(1, 1)), r.l.Kind(hd(2, 2)); a != api.KindMutex || b != api.KindGroup || r.l.Count() != 2 {
		t.Errorf("Kind: %d, %d; Count %d", a, b, r.l.Count())
	}
}
