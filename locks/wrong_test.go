package locks

import (
	"testing"

	"drowse/api"
)

// full is a rig with the mutex 1.1, held and with a locker; 1.2, free; the wait group 2.1, with the counter 1 and a joiner; and 2.2, with the counter 0.
func full(t *testing.T) *rig {
	t.Helper()
	r := held(t, who(21))
	r.lock(who(22), hd(1, 1), parked())
	r.make(hd(1, 2), api.KindMutex)
	r.make(hd(2, 1), api.KindGroup)
	r.add(hd(2, 1), 1, done())
	r.wait(who(23), hd(2, 1), parked())
	r.make(hd(2, 2), api.KindGroup)
	return r
}

// anywhere is handles of all sorts: none, mutexes, wait groups, and what is neither.
var anywhere = []api.Handle{none, hd(1, 1), hd(1, 2), hd(2, 1), hd(2, 2), hd(9, 9), hd(1, 3), hd(0, 1), hd(1, 0)}

// P16.2, P16.5: nobody asks nothing, wherever, ahead of all else.
func TestAskedByNobody(t *testing.T) {
	r := full(t)
	for _, h := range anywhere {
		r.wrongLock(none, h, api.ErrArg)
		r.wrongWait(none, h, api.ErrArg)
	}
}

// P16.2, P16.5: who waits already, in whatever row and with whatever arm, asks nothing, ahead of a fatal fate and of looking for the handle.
func TestAskedByWaiter(t *testing.T) {
	rows := []api.Row{row(none, api.SideSend), row(none, api.SideLock), row(none, api.SideJoin), row(hd(1, 1), api.SideLock), row(hd(1, 2), api.SideLock),
		row(hd(2, 1), api.SideJoin), row(hd(2, 2), api.SideJoin), row(hd(7, 7), api.SideSend), row(hd(9, 9), api.SideRecv)}
	for n, at := range rows {
		for _, arm := range []int{0, 1, -1, 49} {
			r := full(t)
			r.put(at, who(5), arm, num(int64(n)))
			for _, h := range anywhere {
				r.wrongLock(who(5), h, api.ErrLocksWaits)
				r.wrongWait(who(5), h, api.ErrLocksWaits)
			}
			// Another generation in the same slot is somebody else.
			r.lock(hd(5, 2), hd(1, 2), done())
			r.wait(hd(5, 2), hd(2, 2), done())
		}
	}
}

// P16.2 to P16.6: what is of the other kind, or nothing, is refused; handles near a thing's are none of its.
func TestAskedOfOthers(t *testing.T) {
	r := full(t)
	for _, h := range []api.Handle{hd(2, 1), hd(2, 2), hd(9, 9), hd(1, 3), hd(0, 1), hd(1, 0)} {
		r.wrongLock(who(5), h, api.ErrLocksHandle)
		r.wrongUnlock(h, api.ErrLocksHandle)
	}
	for _, h := range []api.Handle{hd(1, 1), hd(1, 2), hd(9, 9), hd(2, 3), hd(0, 1), hd(2, 0)} {
		r.wrongWait(who(5), h, api.ErrLocksHandle)
		for _, n := range counts {
			r.wrongAdd(h, n, api.ErrLocksHandle)
		}
	}
}

// P16.2 to P16.6: what was dropped is no more there, whoever waits at its row.
func TestAskedOfDropped(t *testing.T) {
	r := made(t)
	m, w := hd(1, 1), hd(2, 1)
	r.make(m, api.KindMutex)
	r.make(w, api.KindGroup)
	r.lock(who(5), m, done())
	r.add(w, 1, done())
	r.drop(m)
	r.drop(w)
	r.put(row(m, api.SideLock), who(6), 0, num(1))
	r.put(row(w, api.SideJoin), who(7), 0, num(1))
	r.wrongLock(who(5), m, api.ErrLocksHandle)
	r.wrongUnlock(m, api.ErrLocksHandle)
	r.wrongWait(who(5), w, api.ErrLocksHandle)
	r.wrongAdd(w, -1, api.ErrLocksHandle)
	r.wrongDrop(m, api.ErrLocksHandle)
	r.wrongDrop(w, api.ErrLocksHandle)
	if g, err := r.l.Holder(m); g != none || err != api.ErrLocksHandle {
		t.Errorf("Holder: %v, %v", g, err)
	}
	if n, err := r.l.Counter(w); n != 0 || err != api.ErrLocksHandle {
		t.Errorf("Counter: %d, %v", n, err)
	}
}

// The section 'Errors': on a nil *Locks a call with an error answers ErrArg, ahead of all else, every other one its zero value.
func TestNil(t *testing.T) {
	var l *Locks
	refused := func(what string, d api.Did, err api.Errno) {
		t.Helper()
		if err != api.ErrArg || !sameDid(d, api.Did{}) {
			t.Errorf("%s: %v, %v", what, d, err)
		}
	}
	for _, h := range anywhere {
		for _, g := range []api.Handle{none, who(5)} {
			d, err := l.Lock(g, h)
			refused("Lock", d, err)
			d, err = l.Wait(g, h)
			refused("Wait", d, err)
		}
		d, err := l.Unlock(h)
		refused("Unlock", d, err)
		for _, n := range counts {
			d, err = l.Add(h, n)
			refused("Add", d, err)
		}
		for kind := api.Kind(-1); kind < 5; kind++ {
			refused("Make", api.Did{}, l.Make(h, kind))
		}
		refused("Drop", api.Did{}, l.Drop(h))
		g, err := l.Holder(h)
		refused("Holder", api.Did{V: api.Value{H: g}}, err)
		n, err := l.Counter(h)
		refused("Counter", api.Did{V: num(int64(n))}, err)
		if l.Kind(h) != 0 || l.Count() != 0 {
			t.Errorf("of %v: Kind %d, Count %d", h, l.Kind(h), l.Count())
		}
	}
}

// The section 'Errors': the numbers.
func TestNumbers(t *testing.T) {
	if api.ErrArg != 1 || api.ErrLocksHandle != 161 || api.ErrLocksThere != 162 || api.ErrLocksWaits != 163 {
		t.Error("an error has another number")
	}
}
