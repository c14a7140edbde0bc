package waitq

import (
	"math"
	"testing"

	"drowse/api"
)

// Who is none: only the zero handle.
func TestWhoIsNone(t *testing.T) {
	b := made(t)
	for _, side := range sides {
		refused(t, b, row(1, 1, side), api.Handle{}, 0, api.ErrWaitHandle)
		refused(t, b, api.Row{Side: side}, api.Handle{}, -1, api.ErrWaitHandle)
	}
	inAll(t, b)
	put(t, b, row(1, 1, api.SideSend), hd(1, 1), 0, api.Value{}, hd(1, 1))
	refused(t, b, row(1, 1, api.SideSend), api.Handle{}, 0, api.ErrWaitHandle)
	put(t, b, row(1, 1, api.SideSend), hd(math.MaxUint32, math.MaxUint32), 0, api.Value{}, hd(2, 1))
}

// A Side below 1 and above 4 is none of the four.
func TestNoSide(t *testing.T) {
	b := made(t)
	for _, side := range []api.Side{0, -1, 5, 6, -4, math.MinInt, math.MaxInt, 1 << 32, 1<<32 + 1} {
		refused(t, b, row(1, 1, side), hd(1, 1), 0, api.ErrWaitRow)
		refused(t, b, api.Row{Side: side}, hd(1, 1), 0, api.ErrWaitRow)
	}
	for i, side := range sides {
		put(t, b, row(1, 1, side), hd(1, 1), i, api.Value{}, hd(uint32(i+1), 1))
	}
}

// The same who and arm twice, in whatever row; and again, once it is over.
func TestTwice(t *testing.T) {
	b := made(t)
	s, r := row(1, 1, api.SideSend), row(2, 1, api.SideRecv)
	a, c := hd(5, 1), hd(5, 2)
	for _, arm := range []int{0, -3, 8} {
		me, err := b.Put(s, a, arm, api.Value{})
		if err != api.OK {
			t.Fatal(err)
		}
		refused(t, b, s, a, arm, api.ErrWaitTwice)
		refused(t, b, r, a, arm, api.ErrWaitTwice)
		refused(t, b, api.Row{Side: api.SideJoin}, a, arm, api.ErrWaitTwice)
		if _, err := b.Put(r, c, arm, api.Value{}); err != api.OK {
			t.Fatal(err)
		}
		refused(t, b, s, c, arm, api.ErrWaitTwice)
		cut(t, b, me)
		put(t, b, r, a, arm, api.Value{}, me2(me))
		refused(t, b, s, a, arm, api.ErrWaitTwice)
	}
	leave(t, b, a, 3)
	refused(t, b, s, c, 8, api.ErrWaitTwice)
	for i, arm := range []int{8, 0, -3} {
		put(t, b, s, a, arm, api.Value{}, hd(uint32(2*i+1), 3))
		refused(t, b, r, a, arm, api.ErrWaitTwice)
	}
}

// me2 is the next generation.
func me2(h api.Handle) api.Handle { return hd(h.Slot, h.Gen+1) }

// Which error comes first, where several would.
func TestWhichFirst(t *testing.T) {
	b := made(t)
	put(t, b, row(1, 1, api.SideSend), hd(5, 1), 0, api.Value{}, hd(1, 1))
	refused(t, b, row(1, 1, 0), api.Handle{}, 0, api.ErrWaitHandle)
	refused(t, b, row(1, 1, 9), api.Handle{}, 0, api.ErrWaitHandle)
	refused(t, b, row(1, 1, 0), hd(5, 1), 0, api.ErrWaitRow)
	refused(t, b, row(1, 1, 5), hd(5, 1), 0, api.ErrWaitRow)
	refused(t, b, row(1, 1, 4), hd(5, 1), 0, api.ErrWaitTwice)
	inAll(t, b, hd(1, 1))
	put(t, b, row(1, 1, 4), hd(5, 1), 1, api.Value{}, hd(2, 1))
}

// Handles that never were, that are over, of another generation.
func TestNoSuchWait(t *testing.T) {
	b, at := line5(t)
	for _, me := range []api.Handle{{}, hd(0, 1), hd(1, 0), hd(1, 2), hd(5, 0), hd(5, 2), hd(6, 0), hd(6, 1), hd(math.MaxUint32, 1), hd(math.MaxUint32, math.MaxUint32), hd(1, math.MaxUint32)} {
		over(t, b, me)
	}
	inRow(t, b, at, hd(1, 1), hd(2, 1), hd(3, 1), hd(4, 1), hd(5, 1))
	cut(t, b, hd(3, 1))
	for gen := range uint32(4) {
		over(t, b, hd(3, gen))
	}
	put(t, b, at, hd(40, 1), 0, api.Value{}, hd(3, 2))
	over(t, b, hd(3, 1))
	over(t, b, hd(3, 3))
	inRow(t, b, at, hd(1, 1), hd(2, 1), hd(4, 1), hd(5, 1), hd(3, 2))
	empty := made(t)
	over(t, empty, api.Handle{})
	over(t, empty, hd(1, 1))
	over(t, empty, hd(1, 0))
}

// Each call on a nil book: ErrArg ahead of all else, or the zero value.
func TestNil(t *testing.T) {
	var b *Book
	for _, at := range []api.Row{{}, row(1, 1, api.SideSend), row(1, 1, 7)} {
		for _, who := range []api.Handle{{}, hd(1, 1)} {
			if me, err := b.Put(at, who, 0, api.Value{N: 1}); me != (api.Handle{}) || err != api.ErrArg {
				t.Errorf("Put: %v, %v", me, err)
			}
			if r, err := b.Get(who); r != (api.Record{}) || err != api.ErrArg {
				t.Errorf("Get: %v, %v", r, err)
			}
			if err := b.Cut(who); err != api.ErrArg {
				t.Errorf("Cut: %v", err)
			}
			if b.Leave(who) != 0 || len(b.Of(who)) != 0 || len(b.Row(at)) != 0 {
				t.Error("Leave, Of or Row tells something")
			}
			if r, ok := b.First(at); r != (api.Record{}) || ok {
				t.Errorf("First: %v, %v", r, ok)
			}
		}
	}
	if len(b.All()) != 0 || b.Count() != 0 {
		t.Error("All or Count tells something")
	}
}
