package locks

import (
	"fmt"
	"math/big"
	"math/rand"
	"slices"
	"testing"

	"drowse/api"
)

// model is mutexes, wait groups and waits as the chapter says it: by lists that are gone through.
type model struct {
	things []modelThing
	waits  []entry
}

// modelThing is a mutex with its holder, or a wait group with its counter.
type modelThing struct {
	h       api.Handle
	kind    api.Kind
	holder  api.Handle
	counter int64
}

// find is where a thing of a kind is (0: of any), or nil.
func (m *model) find(h api.Handle, kind api.Kind) *modelThing {
	for i := range m.things {
		if x := &m.things[i]; x.h == h && (kind == 0 || x.kind == kind) {
			return x
		}
	}
	return nil
}

// those are the waits of a row.
func (m *model) those(h api.Handle, side api.Side) (list []entry) {
	for _, w := range m.waits {
		if w.row == row(h, side) {
			list = append(list, w)
		}
	}
	return list
}

// busy tells whether g has a wait.
func (m *model) busy(g api.Handle) bool {
	return slices.ContainsFunc(m.waits, func(w entry) bool { return w.who == g })
}

// leave ends all waits of g.
func (m *model) leave(g api.Handle) {
	m.waits = slices.DeleteFunc(m.waits, func(w entry) bool { return w.who == g })
}

// make, drop, lock, unlock, add and wait are what the chapter says of these calls.
func (m *model) make(h api.Handle, kind api.Kind) api.Errno {
	if h == none || kind != api.KindMutex && kind != api.KindGroup {
		return api.ErrArg
	}
	if m.find(h, 0) != nil {
		return api.ErrLocksThere
	}
	m.things = append(m.things, modelThing{h: h, kind: kind})
	return api.OK
}

func (m *model) drop(h api.Handle) api.Errno {
	x := m.find(h, 0)
	if x == nil {
		return api.ErrLocksHandle
	}
	if x.kind == api.KindMutex && len(m.those(h, api.SideLock)) > 0 {
		return api.ErrLocksWaits
	}
	if x.kind == api.KindGroup && len(m.those(h, api.SideJoin)) > 0 {
		return api.ErrLocksWaits
	}
	m.things = slices.DeleteFunc(m.things, func(x modelThing) bool { return x.h == h })
	return api.OK
}

func (m *model) lock(g, h api.Handle) (api.Did, api.Errno) {
	switch {
	case g == none:
		return api.Did{}, api.ErrArg
	case m.busy(g):
		return api.Did{}, api.ErrLocksWaits
	case h == none:
		return fatal(api.FatalNilMutex), api.OK
	}
	x := m.find(h, api.KindMutex)
	if x == nil {
		return api.Did{}, api.ErrLocksHandle
	}
	if x.holder == none {
		x.holder = g
		return done(), api.OK
	}
	m.waits = append(m.waits, wants(g, h))
	return parked(), api.OK
}

func (m *model) unlock(h api.Handle) (api.Did, api.Errno) {
	if h == none {
		return fatal(api.FatalNilMutex), api.OK
	}
	x := m.find(h, api.KindMutex)
	if x == nil {
		return api.Did{}, api.ErrLocksHandle
	}
	if x.holder == none {
		return fatal(api.FatalUnlock), api.OK
	}
	x.holder = none
	if l := m.those(h, api.SideLock); len(l) > 0 {
		x.holder = l[0].who
		m.leave(l[0].who)
		return wokeArm(l[0].who, l[0].arm), api.OK
	}
	return done(), api.OK
}

func (m *model) add(h api.Handle, n int64) (api.Did, api.Errno) {
	if h == none {
		return fatal(api.FatalNilGroup), api.OK
	}
	x := m.find(h, api.KindGroup)
	if x == nil {
		return api.Did{}, api.ErrLocksHandle
	}
	sum := new(big.Int).Add(big.NewInt(x.counter), big.NewInt(n))
	if sum.Cmp(big.NewInt(0)) < 0 || sum.Cmp(big.NewInt(2147483647)) > 0 {
		return fatal(api.FatalCounter), api.OK
	}
	x.counter = sum.Int64()
	var d api.Did
	// Each of those who join is served once, at the first of its waits.
	var served []api.Handle
	for _, w := range m.those(h, api.SideJoin) {
		if x.counter == 0 && !slices.Contains(served, w.who) {
			served = append(served, w.who)
			d.Woken = append(d.Woken, wokeArm(w.who, w.arm).Woken...)
			m.leave(w.who)
		}
	}
	return d, api.OK
}

func (m *model) wait(g, h api.Handle) (api.Did, api.Errno) {
	switch {
	case g == none:
		return api.Did{}, api.ErrArg
	case m.busy(g):
		return api.Did{}, api.ErrLocksWaits
	case h == none:
		return fatal(api.FatalNilGroup), api.OK
	}
	x := m.find(h, api.KindGroup)
	if x == nil {
		return api.Did{}, api.ErrLocksHandle
	}
	if x.counter == 0 {
		return done(), api.OK
	}
	m.waits = append(m.waits, joins(g, h))
	return parked(), api.OK
}

// compare looks at all that is told, of a few handles that are mutexes or wait groups and of some that are none.
func (m *model) compare(r *rig) {
	r.t.Helper()
	if got := r.entries(); !slices.Equal(got, m.waits) {
		r.t.Fatalf("waits: %v, want %v", got, m.waits)
	}
	if r.l.Count() != len(m.things) {
		r.t.Fatalf("Count: %d, want %d", r.l.Count(), len(m.things))
	}
	for _, h := range handles {
		var want modelThing
		holder, counter := api.ErrLocksHandle, api.ErrLocksHandle
		if x := m.find(h, 0); x != nil {
			want = *x
		}
		if want.kind == api.KindMutex {
			holder = api.OK
		}
		if want.kind == api.KindGroup {
			counter = api.OK
		}
		g, e := r.l.Holder(h)
		n, f := r.l.Counter(h)
		if r.l.Kind(h) != want.kind || g != want.holder || e != holder || int64(n) != want.counter || f != counter {
			r.t.Fatalf("of %v: Kind %d, Holder %v, %v, Counter %d, %v; want %+v", h, r.l.Kind(h), g, e, n, f, want)
		}
	}
}

// handles are those that the models' tests speak of.
var handles = []api.Handle{none, hd(1, 1), hd(1, 2), hd(2, 1), hd(2, 2), hd(3, 1)}

// anyWho is one of a few goroutines; seldom none.
func anyWho(c *rand.Rand, many int) api.Handle {
	if c.Intn(20) == 0 {
		return none
	}
	return hd(uint32(c.Intn(many)+1), uint32(c.Intn(2)+1))
}

// anyCount is mostly a small number, seldom one at an edge; often what takes the counter to 0.
func (m *model) anyCount(c *rand.Rand, h api.Handle) int64 {
	x := m.find(h, api.KindGroup)
	switch k := c.Intn(8); {
	case k == 0:
		return counts[c.Intn(len(counts))]
	case k < 3 && x != nil:
		return -x.counter
	case k == 3 && x != nil:
		return api.MaxCount - x.counter + int64(c.Intn(2))
	}
	return int64(c.Intn(7) - 3)
}

// step does one call by chance on both.
func (m *model) step(r *rig, c *rand.Rand, many int) {
	r.t.Helper()
	h, g := handles[c.Intn(len(handles))], anyWho(c, many)
	switch k := c.Intn(32); {
	case k < 3:
		kind := api.Kind(c.Intn(6) - 1)
		want := m.make(h, kind)
		r.result(fmt.Sprint("Make ", h, kind), api.Did{}, r.l.Make(h, kind), api.Did{}, want)
	case k < 4:
		want := m.drop(h)
		r.result(fmt.Sprint("Drop ", h), api.Did{}, r.l.Drop(h), api.Did{}, want)
	case k < 11:
		want, code := m.lock(g, h)
		d, err := r.l.Lock(g, h)
		r.result(fmt.Sprint("Lock ", g, h), d, err, want, code)
	case k < 17:
		want, code := m.unlock(h)
		d, err := r.l.Unlock(h)
		r.result(fmt.Sprint("Unlock ", h), d, err, want, code)
	case k < 23:
		n := m.anyCount(c, h)
		want, code := m.add(h, n)
		d, err := r.l.Add(h, n)
		r.result(fmt.Sprint("Add ", h, n), d, err, want, code)
	case k < 29:
		want, code := m.wait(g, h)
		d, err := r.l.Wait(g, h)
		r.result(fmt.Sprint("Wait ", g, h), d, err, want, code)
	default:
		m.others(r, c, g, h)
	}
}

// others lets somebody wait with several arms, or leave, as those do who know the book.
func (m *model) others(r *rig, c *rand.Rand, g, h api.Handle) {
	r.t.Helper()
	if g == none {
		return
	}
	if m.busy(g) {
		m.leave(g)
		r.b.Leave(g)
		return
	}
	for arm := range c.Intn(4) + 1 {
		w := entry{row: row(h, api.Side(c.Intn(4)+1)), who: g, arm: arm*3 - 3, v: num(int64(arm))}
		m.waits = append(m.waits, w)
		r.put(w.row, w.who, w.arm, w.v)
		if c.Intn(2) == 0 {
			h = handles[c.Intn(len(handles))]
		}
	}
}

// result compares what came of a call.
func (r *rig) result(what string, d api.Did, err api.Errno, want api.Did, code api.Errno) {
	r.t.Helper()
	if err != code || !sameDid(d, want) {
		r.t.Fatalf("%s: %v, %v; want %v, %v", what, d, err, want, code)
	}
}

// P16.1 to P16.6: calls in orders by chance, over several mutexes and wait groups with one book, by few who ask and by many.
func TestByChance(t *testing.T) {
	for seed := range int64(300) {
		c := rand.New(rand.NewSource(seed))
		r, m := made(t), &model{}
		many := c.Intn(9) + 1
		for range 300 {
			m.step(r, c, many)
			m.compare(r)
		}
	}
}

// calls are those of which all short rows are tried: three who want the mutex 1.1, or two who join the wait group 2.1.
var calls = []func(r *rig, m *model){
	lockBy(5), lockBy(6), lockBy(7),
	func(r *rig, m *model) {
		want, code := m.unlock(hd(1, 1))
		d, err := r.l.Unlock(hd(1, 1))
		r.result("Unlock", d, err, want, code)
	},
	waitBy(5), waitBy(6),
	addOf(1), addOf(-1), addOf(-2),
}

// lockBy, waitBy and addOf are such calls.
func lockBy(n int) func(r *rig, m *model) {
	return func(r *rig, m *model) {
		want, code := m.lock(who(n), hd(1, 1))
		d, err := r.l.Lock(who(n), hd(1, 1))
		r.result(fmt.Sprint("Lock by ", n), d, err, want, code)
	}
}

func waitBy(n int) func(r *rig, m *model) {
	return func(r *rig, m *model) {
		want, code := m.wait(who(n), hd(2, 1))
		d, err := r.l.Wait(who(n), hd(2, 1))
		r.result(fmt.Sprint("Wait by ", n), d, err, want, code)
	}
}

func addOf(n int64) func(r *rig, m *model) {
	return func(r *rig, m *model) {
		want, code := m.add(hd(2, 1), n)
		d, err := r.l.Add(hd(2, 1), n)
		r.result(fmt.Sprint("Add ", n), d, err, want, code)
	}
}

// P16.2 to P16.5: all rows of five calls at a mutex and a wait group beside each other.
func TestAllShort(t *testing.T) {
	const long = 5
	rows := 1
	for range long {
		rows *= len(calls)
	}
	for n := range rows {
		r, m := made(t), &model{}
		for h, kind := range map[api.Handle]api.Kind{hd(1, 1): api.KindMutex, hd(2, 1): api.KindGroup} {
			r.l.Make(h, kind)
			m.make(h, kind)
		}
		for range long {
			calls[n%len(calls)](r, m)
			n /= len(calls)
		}
		m.compare(r)
	}
}
