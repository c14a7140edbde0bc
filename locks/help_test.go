package locks

import (
	"fmt"
	"math"
	"slices"
	"testing"

	"drowse/api"
	"drowse/waitq"
)

// none is the handle of nothing.
var none api.Handle

// hd is a handle.
func hd(slot, gen uint32) api.Handle { return api.Handle{Slot: slot, Gen: gen} }

// who is the n-th goroutine.
func who(n int) api.Handle { return hd(uint32(n), 1) }

// num is a number as a value.
func num(n int64) api.Value { return api.Value{N: n} }

// row names one.
func row(h api.Handle, side api.Side) api.Row { return api.Row{Of: h, Side: side} }

// counts are numbers at the edges of what may be added.
var counts = []int64{math.MinInt64, math.MinInt64 + 1, -1 << 32, -1<<31 - 1, -1 << 31, -1<<31 + 1, -2, -1,
	0, 1, 2, 1<<31 - 2, 1<<31 - 1, 1 << 31, 1<<31 + 1, 1 << 32, math.MaxInt64 - 1<<31, math.MaxInt64 - 1, math.MaxInt64}

// rig is mutexes and wait groups, and the book in which their waits stand.
type rig struct {
	t *testing.T
	b *waitq.Book
	l *Locks
}

// made is a rig without anything.
func made(t *testing.T) *rig {
	t.Helper()
	b := waitq.New()
	l, err := New(b)
	if l == nil || err != api.OK {
		t.Fatalf("New: %v, %v", l, err)
	}
	return &rig{t: t, b: b, l: l}
}

// held is a rig with the mutex 1.1, which g holds; of none it is free.
func held(t *testing.T, g api.Handle) *rig {
	t.Helper()
	r := made(t)
	r.make(hd(1, 1), api.KindMutex)
	if g != none {
		r.lock(g, hd(1, 1), done())
	}
	return r
}

// counted is a rig with the wait group 2.1, whose counter is n.
func counted(t *testing.T, n int64) *rig {
	t.Helper()
	r := made(t)
	r.make(hd(2, 1), api.KindGroup)
	r.add(hd(2, 1), n, done())
	return r
}

// make makes one and looks at it.
func (r *rig) make(h api.Handle, kind api.Kind) {
	r.t.Helper()
	n := r.l.Count()
	if err := r.l.Make(h, kind); err != api.OK {
		r.t.Fatalf("Make(%v, %d): %v", h, kind, err)
	}
	if r.l.Kind(h) != kind || r.l.Count() != n+1 {
		r.t.Fatalf("Make(%v, %d): Kind %d, Count %d", h, kind, r.l.Kind(h), r.l.Count())
	}
}

// drop forgets one that nobody waits for.
func (r *rig) drop(h api.Handle) {
	r.t.Helper()
	n, waits := r.l.Count(), r.b.All()
	if err := r.l.Drop(h); err != api.OK {
		r.t.Fatalf("Drop(%v): %v", h, err)
	}
	if r.l.Kind(h) != 0 || r.l.Count() != n-1 || !slices.Equal(waits, r.b.All()) {
		r.t.Fatalf("Drop(%v): Kind %d, Count %d, waits %v", h, r.l.Kind(h), r.l.Count(), r.b.All())
	}
}

// put lets somebody wait, as others do who know the book.
func (r *rig) put(at api.Row, g api.Handle, arm int, v api.Value) {
	r.t.Helper()
	if _, err := r.b.Put(at, g, arm, v); err != api.OK {
		r.t.Fatalf("Put(%v, %v, %d): %v", at, g, arm, err)
	}
}

// sameDid tells whether two are the same in all fields.
func sameDid(a, b api.Did) bool {
	return a.Fate == b.Fate && a.V == b.V && a.OK == b.OK && slices.Equal(a.Woken, b.Woken)
}

// comes looks at what comes of a call, and that a fatal fate changes nothing.
func (r *rig) comes(what string, want api.Did, call func() (api.Did, api.Errno)) {
	r.t.Helper()
	ends := want.Fate > api.Parked
	before := ""
	if ends {
		before = r.state()
	}
	d, err := call()
	if err != api.OK || !sameDid(d, want) {
		r.t.Fatalf("%s: %v, %v; want %v", what, d, err, want)
	}
	if ends && r.state() != before {
		r.t.Fatalf("%s: the fate %d has changed\n%s to\n%s", what, want.Fate, before, r.state())
	}
}

// lock, unlock, add and wait do that, and look at what comes of it.
func (r *rig) lock(g, h api.Handle, want api.Did) {
	r.t.Helper()
	r.comes(fmt.Sprintf("Lock(%v, %v)", g, h), want, func() (api.Did, api.Errno) { return r.l.Lock(g, h) })
}

func (r *rig) unlock(h api.Handle, want api.Did) {
	r.t.Helper()
	r.comes(fmt.Sprintf("Unlock(%v)", h), want, func() (api.Did, api.Errno) { return r.l.Unlock(h) })
}

func (r *rig) add(h api.Handle, n int64, want api.Did) {
	r.t.Helper()
	r.comes(fmt.Sprintf("Add(%v, %d)", h, n), want, func() (api.Did, api.Errno) { return r.l.Add(h, n) })
}

func (r *rig) wait(g, h api.Handle, want api.Did) {
	r.t.Helper()
	r.comes(fmt.Sprintf("Wait(%v, %v)", g, h), want, func() (api.Did, api.Errno) { return r.l.Wait(g, h) })
}

// wrong looks at a call that is refused, and changes nothing.
func (r *rig) wrong(what string, want api.Errno, call func() (api.Did, api.Errno)) {
	r.t.Helper()
	before := r.state()
	d, err := call()
	if err != want || !sameDid(d, api.Did{}) {
		r.t.Errorf("%s: %v, %v; want %v", what, d, err, want)
	}
	if after := r.state(); after != before {
		r.t.Errorf("%s has changed\n%s to\n%s", what, before, after)
	}
}

// wrongLock, wrongUnlock, wrongAdd, wrongWait, wrongMake and wrongDrop are such calls.
func (r *rig) wrongLock(g, h api.Handle, want api.Errno) {
	r.t.Helper()
	r.wrong(fmt.Sprintf("Lock(%v, %v)", g, h), want, func() (api.Did, api.Errno) { return r.l.Lock(g, h) })
}

func (r *rig) wrongUnlock(h api.Handle, want api.Errno) {
	r.t.Helper()
	r.wrong(fmt.Sprintf("Unlock(%v)", h), want, func() (api.Did, api.Errno) { return r.l.Unlock(h) })
}

func (r *rig) wrongAdd(h api.Handle, n int64, want api.Errno) {
	r.t.Helper()
	r.wrong(fmt.Sprintf("Add(%v, %d)", h, n), want, func() (api.Did, api.Errno) { return r.l.Add(h, n) })
}

func (r *rig) wrongWait(g, h api.Handle, want api.Errno) {
	r.t.Helper()
	r.wrong(fmt.Sprintf("Wait(%v, %v)", g, h), want, func() (api.Did, api.Errno) { return r.l.Wait(g, h) })
}

func (r *rig) wrongMake(h api.Handle, kind api.Kind, want api.Errno) {
	r.t.Helper()
	r.wrong(fmt.Sprintf("Make(%v, %d)", h, kind), want, func() (api.Did, api.Errno) { return api.Did{}, r.l.Make(h, kind) })
}

func (r *rig) wrongDrop(h api.Handle, want api.Errno) {
	r.t.Helper()
	r.wrong(fmt.Sprintf("Drop(%v)", h), want, func() (api.Did, api.Errno) { return api.Did{}, r.l.Drop(h) })
}

// state is all there is, as a text: each mutex and wait group, and all waits.
func (r *rig) state() string {
	var list []string
	for h, x := range r.l.things {
		list = append(list, fmt.Sprintf("%v %+v", h, x))
	}
	slices.Sort(list)
	return fmt.Sprint(list, r.b.All())
}

// holds looks at who holds a mutex, and that asking it changes nothing.
func (r *rig) holds(h, want api.Handle) {
	r.t.Helper()
	before := r.state()
	g, err := r.l.Holder(h)
	n, wrong := r.l.Counter(h)
	if g != want || err != api.OK || n != 0 || wrong != api.ErrLocksHandle || r.l.Kind(h) != api.KindMutex {
		r.t.Fatalf("of the mutex %v: Holder %v, %v; Counter %d, %v; Kind %d; want %v", h, g, err, n, wrong, r.l.Kind(h), want)
	}
	if after := r.state(); after != before {
		r.t.Fatalf("asking has changed\n%s to\n%s", before, after)
	}
}

// counts looks at the counter of a wait group, and that asking it changes nothing.
func (r *rig) counts(h api.Handle, want int) {
	r.t.Helper()
	before := r.state()
	n, err := r.l.Counter(h)
	g, wrong := r.l.Holder(h)
	if n != want || err != api.OK || g != none || wrong != api.ErrLocksHandle || r.l.Kind(h) != api.KindGroup {
		r.t.Fatalf("of the wait group %v: Counter %d, %v; Holder %v, %v; Kind %d; want %d", h, n, err, g, wrong, r.l.Kind(h), want)
	}
	if after := r.state(); after != before {
		r.t.Fatalf("asking has changed\n%s to\n%s", before, after)
	}
}

// entry is a wait but for its own handle.
type entry struct {
	row api.Row
	who api.Handle
	arm int
	v   api.Value
}

// waits looks at all waits that there are, the one that was put first ahead.
func (r *rig) waits(want ...entry) {
	r.t.Helper()
	if got := r.entries(); !slices.Equal(got, want) {
		r.t.Fatalf("waits: %v, want %v", got, want)
	}
}

// entries are all waits, as they were put.
func (r *rig) entries() []entry {
	var list []entry
	for _, w := range r.b.All() {
		list = append(list, entry{row: w.Row, who: w.Who, arm: w.Arm, v: w.V})
	}
	return list
}

// wants is who wants a mutex, joins who waits for a wait group.
func wants(g, h api.Handle) entry { return entry{row: row(h, api.SideLock), who: g} }
func joins(g, h api.Handle) entry { return entry{row: row(h, api.SideJoin), who: g} }

// done is what is done and wakes nobody.
func done() api.Did { return api.Did{} }

// woke is what is done, and who is woken by it, each for its arm 0.
func woke(woken ...api.Handle) api.Did {
	var d api.Did
	for _, g := range woken {
		d.Woken = append(d.Woken, api.Wake{Who: g})
	}
	return d
}

// wokeArm is what is done, and who is woken by it, for an arm.
func wokeArm(g api.Handle, arm int) api.Did {
	return api.Did{Woken: []api.Wake{{Who: g, Got: api.Got{Arm: arm}}}}
}

// parked is who asked and must wait.
func parked() api.Did { return api.Did{Fate: api.Parked} }

// fatal is the end of a run.
func fatal(f api.Fate) api.Did { return api.Did{Fate: f} }
