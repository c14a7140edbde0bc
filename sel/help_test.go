package sel

import (
	"fmt"
	"slices"
	"testing"

	"drowse/api"
	"drowse/chans"
	"drowse/waitq"
)

// none is the handle of nothing.
var none api.Handle

// hd is a handle.
func hd(slot, gen uint32) api.Handle { return api.Handle{Slot: slot, Gen: gen} }

// who is the n-th goroutine, ch the n-th channel.
func who(n int) api.Handle { return hd(uint32(n), 1) }
func ch(n int) api.Handle  { return hd(uint32(n), 1) }

// num is a number as a value, ref a reference.
func num(n int64) api.Value      { return api.Value{N: n} }
func ref(h api.Handle) api.Value { return api.Value{H: h} }

// row names one.
func row(h api.Handle, side api.Side) api.Row { return api.Row{Of: h, Side: side} }

// out is an arm that sends, in one that receives.
func out(h api.Handle, v api.Value) api.Arm { return api.Arm{Chan: h, Send: true, V: v} }
func in(h api.Handle) api.Arm               { return api.Arm{Chan: h} }

// list is some arms.
func list(arms ...api.Arm) []api.Arm { return arms }

// many is an arm so many times.
func many(arm api.Arm, n int) []api.Arm { return slices.Repeat(list(arm), n) }

// rig is selects over channels, and the book in which their waits stand.
type rig struct {
	t *testing.T
	b *waitq.Book
	c *chans.Chans
	s *Sel
}

// made is a rig with channels from 1.1 on, with room as told.
func made(t *testing.T, sizes ...int) *rig {
	t.Helper()
	b := waitq.New()
	c, _ := chans.New(b)
	s, err := New(c, b)
	if s == nil || err != api.OK {
		t.Fatalf("New: %v, %v", s, err)
	}
	r := &rig{t: t, b: b, c: c, s: s}
	for n, size := range sizes {
		if err := c.Make(ch(n+1), size); err != api.OK {
			t.Fatalf("Make: %v", err)
		}
	}
	return r
}

// put lets somebody wait, as others do who know the book.
func (r *rig) put(at api.Row, g api.Handle, arm int, v api.Value) {
	r.t.Helper()
	if _, err := r.b.Put(at, g, arm, v); err != api.OK {
		r.t.Fatalf("Put(%v, %v, %d): %v", at, g, arm, err)
	}
}

// same looks at what came of a call.
func (r *rig) same(what string, d api.Did, err api.Errno, want api.Did) {
	r.t.Helper()
	if err != api.OK || !sameDid(d, want) {
		r.t.Fatalf("%s: %v, %v; want %v", what, d, err, want)
	}
}

// sameDid tells whether two are the same in all fields.
func sameDid(a, b api.Did) bool {
	return a.Fate == b.Fate && a.V == b.V && a.OK == b.OK && slices.Equal(a.Woken, b.Woken)
}

// send, recv and close ask the channels, and look at what comes of it.
func (r *rig) send(g, h api.Handle, v api.Value, want api.Did) {
	r.t.Helper()
	d, err := r.c.Send(g, h, v)
	r.same(fmt.Sprintf("Send(%v, %v, %v)", g, h, v), d, err, want)
}

func (r *rig) recv(g, h api.Handle, want api.Did) {
	r.t.Helper()
	d, err := r.c.Recv(g, h)
	r.same(fmt.Sprintf("Recv(%v, %v)", g, h), d, err, want)
}

func (r *rig) close(h api.Handle, want api.Did) {
	r.t.Helper()
	d, err := r.c.Close(h)
	r.same(fmt.Sprintf("Close(%v)", h), d, err, want)
}

// poll looks at which arms are ready, and that asking changes nothing.
func (r *rig) poll(arms []api.Arm, want ...int) {
	r.t.Helper()
	before, handed := r.state(), slices.Clone(arms)
	ready, err := r.s.Poll(arms)
	if err != api.OK || !slices.Equal(ready, want) {
		r.t.Fatalf("Poll(%v): %v, %v; want %v", arms, ready, err, want)
	}
	r.still(fmt.Sprintf("Poll(%v)", arms), before, handed, arms)
}

// take takes an arm, and looks at what comes of it.
func (r *rig) take(g api.Handle, arms []api.Arm, i int, want api.Did) {
	r.t.Helper()
	handed := slices.Clone(arms)
	d, err := r.s.Take(g, arms, i)
	r.same(fmt.Sprintf("Take(%v, %v, %d)", g, arms, i), d, err, want)
	if !slices.Equal(arms, handed) {
		r.t.Fatalf("Take has changed the arms %v to %v", handed, arms)
	}
}

// park lets somebody wait for some arms, and looks at what that has put into the book, behind all that was there.
func (r *rig) park(g api.Handle, arms ...api.Arm) {
	r.t.Helper()
	handed, before := slices.Clone(arms), r.entries()
	r.poll(arms)
	if err := r.s.Park(g, arms); err != api.OK {
		r.t.Fatalf("Park(%v, %v): %v", g, arms, err)
	}
	if !slices.Equal(arms, handed) {
		r.t.Fatalf("Park has changed the arms %v to %v", handed, arms)
	}
	want := before
	for i, a := range arms {
		w := entry{row: row(a.Chan, api.SideRecv), who: g, arm: i}
		if a.Send {
			w.row.Side, w.v = api.SideSend, a.V
		}
		want = append(want, w)
	}
	r.waits(want...)
}

// wrongPoll, wrongTake and wrongPark are calls that are refused, and change nothing.
func (r *rig) wrongPoll(arms []api.Arm, want api.Errno) {
	r.t.Helper()
	before, handed := r.state(), slices.Clone(arms)
	ready, err := r.s.Poll(arms)
	if err != want || len(ready) != 0 {
		r.t.Fatalf("Poll(%v): %v, %v; want %v", arms, ready, err, want)
	}
	r.still(fmt.Sprintf("Poll(%v)", arms), before, handed, arms)
}

func (r *rig) wrongTake(g api.Handle, arms []api.Arm, i int, want api.Errno) {
	r.t.Helper()
	before, handed := r.state(), slices.Clone(arms)
	d, err := r.s.Take(g, arms, i)
	if err != want || !sameDid(d, api.Did{}) {
		r.t.Fatalf("Take(%v, %v, %d): %v, %v; want %v", g, arms, i, d, err, want)
	}
	r.still(fmt.Sprintf("Take(%v, %v, %d)", g, arms, i), before, handed, arms)
}

func (r *rig) wrongPark(g api.Handle, arms []api.Arm, want api.Errno) {
	r.t.Helper()
	before, handed := r.state(), slices.Clone(arms)
	if err := r.s.Park(g, arms); err != want {
		r.t.Fatalf("Park(%v, %v): %v; want %v", g, arms, err, want)
	}
	r.still(fmt.Sprintf("Park(%v, %v)", g, arms), before, handed, arms)
}

// still looks whether nothing has changed: neither what there is nor what was handed in.
func (r *rig) still(what, before string, handed, arms []api.Arm) {
	r.t.Helper()
	if after := r.state(); after != before {
		r.t.Fatalf("%s has changed\n%s to\n%s", what, before, after)
	}
	if !slices.Equal(arms, handed) {
		r.t.Fatalf("%s has changed the arms %v", what, handed)
	}
}

// state is all that can be told of the first channels, and all waits, as a text.
func (r *rig) state() string {
	text := fmt.Sprint(r.c.Count())
	for n := range 9 {
		h := ch(n)
		held, _ := r.c.Len(h)
		room, _ := r.c.Cap(h)
		text += fmt.Sprint(" ", h, r.c.Has(h), held, room, r.c.CanSend(h), r.c.CanRecv(h), r.c.Refs(h))
	}
	return text + fmt.Sprint(r.b.All())
}

// entry is a wait but for its own handle.
type entry struct {
	row api.Row
	who api.Handle
	arm int
	v   api.Value
}

// waits looks at all waits that there are, the one that was put first ahead.
func (r *rig) waits(want ...entry) {
	r.t.Helper()
	if got := r.entries(); !slices.Equal(got, want) {
		r.t.Fatalf("waits: %v, want %v", got, want)
	}
}

// entries are all waits, as they were put.
func (r *rig) entries() []entry {
	var all []entry
	for _, w := range r.b.All() {
		all = append(all, entry{row: w.Row, who: w.Who, arm: w.Arm, v: w.V})
	}
	return all
}

// got is a value that was received.
func got(v api.Value, woken ...api.Wake) api.Did { return api.Did{V: v, OK: true, Woken: woken} }

// woke is what is done, and whom it has made ready.
func woke(woken ...api.Wake) api.Did { return api.Did{Woken: woken} }

// parked is who asked and must wait.
func parked() api.Did { return api.Did{Fate: api.Parked} }

// fatal is the end of a run.
func fatal(f api.Fate) api.Did { return api.Did{Fate: f} }

// gets is a receiver that was woken with a value, ends one by a close; sent is a sender that was woken, dies one by a close.
func gets(g api.Handle, arm int, v api.Value) api.Wake {
	return api.Wake{Who: g, Got: api.Got{Arm: arm, V: v, OK: true}}
}
func ends(g api.Handle, arm int) api.Wake { return api.Wake{Who: g, Got: api.Got{Arm: arm}} }
func sent(g api.Handle, arm int) api.Wake { return api.Wake{Who: g, Got: api.Got{Arm: arm}} }
func dies(g api.Handle, arm int) api.Wake {
	return api.Wake{Who: g, Got: api.Got{Arm: arm, Fate: api.FatalSendClosed}}
}
