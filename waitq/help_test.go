package waitq

import (
	"slices"
	"testing"

	"drowse/api"
)

// sides are all there are.
var sides = []api.Side{api.SideSend, api.SideRecv, api.SideLock, api.SideJoin}

// hd is a handle.
func hd(slot, gen uint32) api.Handle { return api.Handle{Slot: slot, Gen: gen} }

// row names one.
func row(slot, gen uint32, side api.Side) api.Row { return api.Row{Of: hd(slot, gen), Side: side} }

// made is a new book, without waits.
func made(t *testing.T) *Book {
	t.Helper()
	b := New()
	if b == nil {
		t.Fatal("New: nil")
	}
	return b
}

// put lets who wait, and looks at the handle and at what Get tells of it.
func put(t *testing.T, b *Book, at api.Row, who api.Handle, arm int, v api.Value, want api.Handle) {
	t.Helper()
	if me, err := b.Put(at, who, arm, v); me != want || err != api.OK {
		t.Fatalf("Put(%v, %v, %d): %v, %v; want %v", at, who, arm, me, err, want)
	}
	r := api.Record{Me: want, Who: who, Row: at, Arm: arm, V: v}
	if g, err := b.Get(want); g != r || err != api.OK {
		t.Fatalf("Get(%v): %v, %v; want %v", want, g, err, r)
	}
}

// refused looks at a Put that is an error and changes nothing.
func refused(t *testing.T, b *Book, at api.Row, who api.Handle, arm int, want api.Errno) {
	t.Helper()
	all, ahead := b.All(), b.Row(at)
	if me, err := b.Put(at, who, arm, api.Value{N: 3}); me != (api.Handle{}) || err != want {
		t.Fatalf("Put(%v, %v, %d): %v, %v; want %v", at, who, arm, me, err, want)
	}
	if !slices.Equal(all, b.All()) || !slices.Equal(ahead, b.Row(at)) || b.Count() != len(all) {
		t.Fatalf("Put(%v, %v, %d) has changed what there is", at, who, arm)
	}
}

// cut ends a wait that there is.
func cut(t *testing.T, b *Book, me api.Handle) {
	t.Helper()
	if err := b.Cut(me); err != api.OK {
		t.Fatalf("Cut(%v): %v", me, err)
	}
	over(t, b, me)
}

// leave looks at how many waits who has left.
func leave(t *testing.T, b *Book, who api.Handle, want int) {
	t.Helper()
	if n := b.Leave(who); n != want {
		t.Fatalf("Leave(%v): %d, want %d", who, n, want)
	}
	stand(t, "Of", b.Of(who))
}

// over looks at a handle that no wait has.
func over(t *testing.T, b *Book, me api.Handle) {
	t.Helper()
	n := b.Count()
	if r, err := b.Get(me); r != (api.Record{}) || err != api.ErrWaitHandle {
		t.Fatalf("Get(%v): %v, %v; want ErrWaitHandle", me, r, err)
	}
	if err := b.Cut(me); err != api.ErrWaitHandle {
		t.Fatalf("Cut(%v): %v; want ErrWaitHandle", me, err)
	}
	if b.Count() != n {
		t.Fatalf("Cut(%v) of nothing: %d waits, not %d", me, b.Count(), n)
	}
}

// handles are those of a list, in order.
func handles(l []api.Record) []api.Handle {
	var list []api.Handle
	for _, r := range l {
		list = append(list, r.Me)
	}
	return list
}

// stand looks at the handles of a list.
func stand(t *testing.T, name string, l []api.Record, want ...api.Handle) {
	t.Helper()
	if got := handles(l); !slices.Equal(got, want) {
		t.Fatalf("%s: %v, want %v", name, got, want)
	}
}

// inRow looks at a row and at its first one.
func inRow(t *testing.T, b *Book, at api.Row, want ...api.Handle) {
	t.Helper()
	l := b.Row(at)
	stand(t, "Row", l, want...)
	r, ok := b.First(at)
	if len(want) == 0 && (ok || r != api.Record{}) {
		t.Fatalf("First(%v) of an empty row: %v, %v", at, r, ok)
	}
	if len(want) > 0 && (!ok || r != l[0]) {
		t.Fatalf("First(%v): %v, %v; want %v", at, r, ok, l[0])
	}
}

// inAll looks at all waits and at how many they are.
func inAll(t *testing.T, b *Book, want ...api.Handle) {
	t.Helper()
	stand(t, "All", b.All(), want...)
	if b.Count() != len(want) {
		t.Fatalf("Count: %d, want %d", b.Count(), len(want))
	}
}
