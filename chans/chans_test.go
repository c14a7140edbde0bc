package chans

import (
	"math"
	"testing"

	"drowse/api"
	"drowse/waitq"
)

// The rows of the chapter's section 'Examples'.
func TestExamples(t *testing.T) {
	r := made(t)
	g, o, x := hd(5, 1), hd(6, 1), hd(1, 1)
	r.make(x, 1)
	r.send(g, x, num(7), api.Did{})
	r.send(g, x, num(8), parked())
	r.wrongSend(g, x, api.ErrChansWaits)
	r.recv(o, x, got(num(7), sent(g, 0)))
	r.recv(o, x, got(num(8)))
	r.recv(o, x, parked())
	r.send(g, x, num(4), woke(gets(o, 0, num(4))))
	r.recv(o, x, parked())
	r.close(x, woke(ends(o, 0)))
	r.close(x, fatal(api.FatalCloseClosed))
	r.recv(o, x, api.Did{})
	r.send(g, x, num(1), fatal(api.FatalSendClosed))
	r.send(g, none, num(1), parked())
	r.close(none, fatal(api.FatalCloseNil))
	r.asks(none, false, false, 0, 0)
	r.wrongRecv(o, hd(9, 9), api.ErrChansHandle)
}

// P14.1: a nil book is no book; a new Chans has no channels; the book is kept, what waits there stays.
func TestNew(t *testing.T) {
	if c, err := New(nil); c != nil || err != api.ErrArg {
		t.Fatalf("New(nil): %v, %v", c, err)
	}
	b := waitq.New()
	b.Put(row(hd(1, 1), api.SideSend), who(5), 3, num(6))
	c, err := New(b)
	if c == nil || err != api.OK || c.Count() != 0 || c.Has(hd(1, 1)) || c.Has(none) || b.Count() != 1 {
		t.Fatalf("New: %v, %v, %d waits", c, err, b.Count())
	}
	r := &rig{t: t, b: b, c: c}
	r.make(hd(1, 1), 0)
	r.recv(who(6), hd(1, 1), got(num(6), sent(who(5), 3)))
	r.recv(who(6), hd(1, 1), parked())
	r.waits(entry{row(hd(1, 1), api.SideRecv), who(6), 0, api.Value{}})
}

// P14.1: two Chans have their own channels, and who waits at one's stands in the book that both have.
func TestTwoOfOneBook(t *testing.T) {
	a := made(t)
	c, _ := New(a.b)
	b := &rig{t: t, b: a.b, c: c}
	a.make(hd(1, 1), 1)
	b.wrongDrop(hd(1, 1), api.ErrChansHandle)
	b.make(hd(2, 1), 1)
	a.wrongSend(who(5), hd(2, 1), api.ErrChansHandle)
	a.recv(who(5), hd(1, 1), parked())
	b.wrongSend(who(5), hd(2, 1), api.ErrChansWaits)
	a.send(who(6), hd(1, 1), num(1), woke(gets(who(5), 0, num(1))))
	b.send(who(5), hd(2, 1), num(2), api.Did{})
	a.asks(hd(1, 1), true, false, 0, 1)
	b.asks(hd(2, 1), false, true, 1, 1)
}

// P14.1: each size from 0 to 100 has as much room; a new channel is open and empty.
func TestMakeSizes(t *testing.T) {
	for size := range api.MaxBuffer + 1 {
		r := with(t, size)
		r.asks(hd(1, 1), size > 0, false, 0, size)
		for n := range size {
			r.send(who(5), hd(1, 1), num(int64(n)), api.Did{})
			r.asks(hd(1, 1), n+1 < size, true, n+1, size)
		}
		r.send(who(5), hd(1, 1), num(-1), parked())
		r.asks(hd(1, 1), false, true, size, size)
		for n := range size {
			want := got(num(int64(n)))
			if n == 0 {
				want.Woken = []api.Wake{sent(who(5), 0)}
			}
			r.recv(who(6), hd(1, 1), want)
		}
		if size == 0 {
			r.recv(who(6), hd(1, 1), got(num(-1), sent(who(5), 0)))
		} else {
			r.recv(who(6), hd(1, 1), got(num(-1)))
		}
		r.asks(hd(1, 1), size > 0, false, 0, size)
	}
}

// P14.1: what is none, has no such size, or is there, is not made; the argument is looked at first.
func TestMakeWrong(t *testing.T) {
	r := made(t)
	for _, size := range []int{-1, 101, 102, math.MinInt, math.MaxInt, math.MinInt32, math.MaxInt32, 1 << 32, 1<<32 + 1} {
		r.wrongMake(hd(1, 1), size, api.ErrArg)
		r.wrongMake(none, size, api.ErrArg)
	}
	r.wrongMake(none, 0, api.ErrArg)
	r.wrongMake(none, 100, api.ErrArg)
	r.make(hd(1, 1), 2)
	r.send(who(5), hd(1, 1), num(3), api.Did{})
	for _, size := range []int{0, 1, 2, 100} {
		r.wrongMake(hd(1, 1), size, api.ErrChansThere)
	}
	for _, size := range []int{-1, 101, math.MinInt} {
		r.wrongMake(hd(1, 1), size, api.ErrArg)
	}
	r.close(hd(1, 1), api.Did{})
	r.wrongMake(hd(1, 1), 2, api.ErrChansThere)
}

// P14.1: handles are told apart by both numbers; the zero one alone is none.
func TestHandles(t *testing.T) {
	r := made(t)
	list := []api.Handle{hd(1, 1), hd(1, 2), hd(2, 1), hd(math.MaxUint32, math.MaxUint32), hd(math.MaxUint32, 1), hd(1, 0), hd(0, 1)}
	for i, h := range list {
		r.wrongDrop(h, api.ErrChansHandle)
		r.make(h, i)
		for j, o := range list {
			if r.c.Has(o) != (j <= i) {
				t.Fatalf("Has(%v): %v", o, r.c.Has(o))
			}
		}
	}
	for i, h := range list {
		r.asks(h, i > 0, false, 0, i)
		r.close(h, api.Did{})
		r.asks(h, true, true, 0, i)
	}
	for i, h := range list {
		r.drop(h)
		if r.c.Count() != len(list)-1-i {
			t.Fatalf("Count: %d", r.c.Count())
		}
	}
}

// P14.1: what nobody waits at is dropped, whatever it has; behind that there is nothing, and it may be made again.
func TestDrop(t *testing.T) {
	x := hd(1, 1)
	r := with(t, 2, ref(hd(7, 1)), num(2))
	r.make(hd(2, 1), 1)
	r.close(x, api.Did{})
	r.drop(x)
	r.wrongDrop(x, api.ErrChansHandle)
	r.wrongSend(who(5), x, api.ErrChansHandle)
	r.wrongRecv(who(5), x, api.ErrChansHandle)
	r.wrongClose(x, api.ErrChansHandle)
	if n, err := r.c.Len(x); n != 0 || err != api.ErrChansHandle {
		t.Errorf("Len: %d, %v", n, err)
	}
	if l := r.c.Refs(x); len(l) != 0 || r.c.CanSend(x) || r.c.CanRecv(x) {
		t.Errorf("Refs: %v", l)
	}
	r.asks(hd(2, 1), true, false, 0, 1)
	r.make(x, 1)
	r.asks(x, true, false, 0, 1)
	r.recv(who(5), x, parked())
	r.send(who(6), x, num(3), woke(gets(who(5), 0, num(3))))
}

// P14.1: where somebody waits nothing is dropped, whoever put the wait there; waits elsewhere don't count.
func TestDropWaits(t *testing.T) {
	x := hd(1, 1)
	for _, side := range []api.Side{api.SideSend, api.SideRecv} {
		r := with(t, 0)
		r.make(hd(1, 2), 0)
		r.put(row(x, side), who(5), 4, num(1))
		r.put(row(x, side), who(6), 4, num(1))
		r.wrongDrop(x, api.ErrChansWaits)
		r.b.Leave(who(5))
		r.wrongDrop(x, api.ErrChansWaits)
		r.drop(hd(1, 2))
		r.b.Leave(who(6))
		r.drop(x)
	}
	r := with(t, 0)
	r.put(row(x, api.SideLock), who(5), 0, num(1))
	r.put(row(x, api.SideJoin), who(6), 0, num(1))
	r.put(row(none, api.SideSend), who(7), 0, num(1))
	r.put(row(none, api.SideRecv), who(8), 0, num(1))
	r.put(row(hd(2, 1), api.SideRecv), who(9), 0, num(1))
	r.drop(x)
	r.recv(who(10), none, parked())
	r.wrongDrop(none, api.ErrChansHandle)
}

// P14.1: a closed channel whose row has a wait, which others put there, is not dropped.
func TestDropClosedWaits(t *testing.T) {
	r := with(t, 1)
	r.close(hd(1, 1), api.Did{})
	r.put(row(hd(1, 1), api.SideRecv), who(5), 0, num(1))
	r.wrongDrop(hd(1, 1), api.ErrChansWaits)
	r.b.Leave(who(5))
	r.drop(hd(1, 1))
}
