package chans

import (
	"fmt"
	"slices"
	"testing"

	"drowse/api"
	"drowse/waitq"
)

// none is the handle of nothing.
var none api.Handle

// hd is a handle.
func hd(slot, gen uint32) api.Handle { return api.Handle{Slot: slot, Gen: gen} }

// who is the n-th goroutine.
func who(n int) api.Handle { return hd(uint32(n), 1) }

// num is a number as a value, ref a reference.
func num(n int64) api.Value      { return api.Value{N: n} }
func ref(h api.Handle) api.Value { return api.Value{H: h} }

// row names one.
func row(h api.Handle, side api.Side) api.Row { return api.Row{Of: h, Side: side} }

// rig is channels and the book in which their waits stand.
type rig struct {
	t *testing.T
	b *waitq.Book
	c *Chans
}

// made is a rig without channels.
func made(t *testing.T) *rig {
	t.Helper()
	b := waitq.New()
	c, err := New(b)
	if c == nil || err != api.OK {
		t.Fatalf("New: %v, %v", c, err)
	}
	return &rig{t: t, b: b, c: c}
}

// with is a rig with one channel, 1.1, and with what was sent there.
func with(t *testing.T, size int, sent ...api.Value) *rig {
	t.Helper()
	r := made(t)
	r.make(hd(1, 1), size)
	for _, v := range sent {
		r.send(who(99), hd(1, 1), v, api.Did{})
	}
	return r
}

// make makes a channel and looks at it.
func (r *rig) make(h api.Handle, size int) {
	r.t.Helper()
	n := r.c.Count()
	if err := r.c.Make(h, size); err != api.OK {
		r.t.Fatalf("Make(%v, %d): %v", h, size, err)
	}
	if !r.c.Has(h) || r.c.Count() != n+1 {
		r.t.Fatalf("Make(%v, %d): Has %v, Count %d", h, size, r.c.Has(h), r.c.Count())
	}
}

// put lets somebody wait, as others do who know the book.
func (r *rig) put(at api.Row, g api.Handle, arm int, v api.Value) {
	r.t.Helper()
	if _, err := r.b.Put(at, g, arm, v); err != api.OK {
		r.t.Fatalf("Put(%v, %v, %d): %v", at, g, arm, err)
	}
}

// same looks at what came of a call.
func (r *rig) same(what string, d api.Did, err api.Errno, want api.Did) {
	r.t.Helper()
	if err != api.OK || !sameDid(d, want) {
		r.t.Fatalf("%s: %v, %v; want %v", what, d, err, want)
	}
}

// sameDid tells whether two are the same in all fields.
func sameDid(a, b api.Did) bool {
	return a.Fate == b.Fate && a.V == b.V && a.OK == b.OK && slices.Equal(a.Woken, b.Woken)
}

// send sends, and looks at what comes of it.
func (r *rig) send(g, h api.Handle, v api.Value, want api.Did) {
	r.t.Helper()
	before := r.before(want)
	d, err := r.c.Send(g, h, v)
	r.same(fmt.Sprintf("Send(%v, %v, %v)", g, h, v), d, err, want)
	r.kept(before, want)
}

// recv receives, and looks at what comes of it.
func (r *rig) recv(g, h api.Handle, want api.Did) {
	r.t.Helper()
	before := r.before(want)
	d, err := r.c.Recv(g, h)
	r.same(fmt.Sprintf("Recv(%v, %v)", g, h), d, err, want)
	r.kept(before, want)
}

// close closes, and looks at what comes of it.
func (r *rig) close(h api.Handle, want api.Did) {
	r.t.Helper()
	before := r.before(want)
	d, err := r.c.Close(h)
	r.same(fmt.Sprintf("Close(%v)", h), d, err, want)
	r.kept(before, want)
}

// before is all there is ahead of a call that comes to a fatal fate. Of others nobody asks, and a long text takes long.
func (r *rig) before(want api.Did) string {
	if want.Fate <= api.Parked {
		return ""
	}
	return r.state()
}

// kept looks whether a fatal fate has changed nothing.
func (r *rig) kept(before string, want api.Did) {
	r.t.Helper()
	if after := r.before(want); after != before {
		r.t.Fatalf("the fate %d has changed\n%s to\n%s", want.Fate, before, after)
	}
}

// wrong looks at a call that is refused, and changes nothing.
func (r *rig) wrong(what string, want api.Errno, call func() (api.Did, api.Errno)) {
	r.t.Helper()
	before := r.state()
	d, err := call()
	if err != want || !sameDid(d, api.Did{}) {
		r.t.Errorf("%s: %v, %v; want %v", what, d, err, want)
	}
	if after := r.state(); after != before {
		r.t.Errorf("%s has changed\n%s to\n%s", what, before, after)
	}
}

// wrongSend, wrongRecv, wrongClose, wrongMake and wrongDrop are such calls.
func (r *rig) wrongSend(g, h api.Handle, want api.Errno) {
	r.t.Helper()
	r.wrong(fmt.Sprintf("Send(%v, %v)", g, h), want, func() (api.Did, api.Errno) { return r.c.Send(g, h, num(8)) })
}

func (r *rig) wrongRecv(g, h api.Handle, want api.Errno) {
	r.t.Helper()
	r.wrong(fmt.Sprintf("Recv(%v, %v)", g, h), want, func() (api.Did, api.Errno) { return r.c.Recv(g, h) })
}

func (r *rig) wrongClose(h api.Handle, want api.Errno) {
	r.t.Helper()
	r.wrong(fmt.Sprintf("Close(%v)", h), want, func() (api.Did, api.Errno) { return r.c.Close(h) })
}

func (r *rig) wrongMake(h api.Handle, size int, want api.Errno) {
	r.t.Helper()
	r.wrong(fmt.Sprintf("Make(%v, %d)", h, size), want, func() (api.Did, api.Errno) { return api.Did{}, r.c.Make(h, size) })
}

func (r *rig) wrongDrop(h api.Handle, want api.Errno) {
	r.t.Helper()
	r.wrong(fmt.Sprintf("Drop(%v)", h), want, func() (api.Did, api.Errno) { return api.Did{}, r.c.Drop(h) })
}

// drop forgets a channel that nobody waits at.
func (r *rig) drop(h api.Handle) {
	r.t.Helper()
	n := r.c.Count()
	if err := r.c.Drop(h); err != api.OK {
		r.t.Fatalf("Drop(%v): %v", h, err)
	}
	if r.c.Has(h) || r.c.Count() != n-1 {
		r.t.Fatalf("Drop(%v): Has %v, Count %d", h, r.c.Has(h), r.c.Count())
	}
}

// state is all there is, as a text: each channel with what its ring has, and all waits.
func (r *rig) state() string {
	var list []string
	for h, ch := range r.c.channels {
		list = append(list, fmt.Sprint(h, ch.closed, ch.holds.Cap(), slices.Collect(ch.holds.All())))
	}
	slices.Sort(list)
	return fmt.Sprint(list, r.b.All())
}

// asks looks at all that is told of a channel, and that telling it changes nothing.
func (r *rig) asks(h api.Handle, canSend, canRecv bool, held, room int, refs ...api.Handle) {
	r.t.Helper()
	before := r.state()
	r.tells(h, canSend, canRecv, held, room, refs...)
	if after := r.state(); after != before {
		r.t.Fatalf("asking has changed\n%s to\n%s", before, after)
	}
}

// tells looks at all that is told of a channel.
func (r *rig) tells(h api.Handle, canSend, canRecv bool, held, room int, refs ...api.Handle) {
	r.t.Helper()
	if s, v := r.c.CanSend(h), r.c.CanRecv(h); s != canSend || v != canRecv {
		r.t.Fatalf("CanSend, CanRecv of %v: %v, %v; want %v, %v", h, s, v, canSend, canRecv)
	}
	if n, err := r.c.Len(h); n != held || err != api.OK {
		r.t.Fatalf("Len(%v): %d, %v; want %d", h, n, err, held)
	}
	if n, err := r.c.Cap(h); n != room || err != api.OK {
		r.t.Fatalf("Cap(%v): %d, %v; want %d", h, n, err, room)
	}
	if l := r.c.Refs(h); !slices.Equal(l, refs) {
		r.t.Fatalf("Refs(%v): %v, want %v", h, l, refs)
	}
}

// entry is a wait but for its own handle.
type entry struct {
	row api.Row
	who api.Handle
	arm int
	v   api.Value
}

// waits looks at all waits that there are, the one that was put first ahead.
func (r *rig) waits(want ...entry) {
	r.t.Helper()
	if got := r.entries(); !slices.Equal(got, want) {
		r.t.Fatalf("waits: %v, want %v", got, want)
	}
}

// entries are all waits, as they were put.
func (r *rig) entries() []entry {
	var list []entry
	for _, w := range r.b.All() {
		list = append(list, entry{row: w.Row, who: w.Who, arm: w.Arm, v: w.V})
	}
	return list
}

// got is a value that was received.
func got(v api.Value, woken ...api.Wake) api.Did { return api.Did{V: v, OK: true, Woken: woken} }

// woke is what is done, and whom it has made ready.
func woke(woken ...api.Wake) api.Did { return api.Did{Woken: woken} }

// parked is who asked and must wait.
func parked() api.Did { return api.Did{Fate: api.Parked} }

// fatal is the end of a run.
func fatal(f api.Fate) api.Did { return api.Did{Fate: f} }

// gets is a receiver that was woken with a value, ends one by a close; sent is a sender that was woken, dies one by a close.
func gets(g api.Handle, arm int, v api.Value) api.Wake {
	return api.Wake{Who: g, Got: api.Got{Arm: arm, V: v, OK: true}}
}
func ends(g api.Handle, arm int) api.Wake { return api.Wake{Who: g, Got: api.Got{Arm: arm}} }
func sent(g api.Handle, arm int) api.Wake { return api.Wake{Who: g, Got: api.Got{Arm: arm}} }
func dies(g api.Handle, arm int) api.Wake {
	return api.Wake{Who: g, Got: api.Got{Arm: arm, Fate: api.FatalSendClosed}}
}
