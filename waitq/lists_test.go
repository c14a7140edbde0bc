package waitq

import (
	"slices"
	"testing"

	"drowse/api"
)

// mixed is a book of three rows and three who wait, some of whose slots were had before.
func mixed(t *testing.T) *Book {
	t.Helper()
	b := made(t)
	rows := []api.Row{row(1, 1, api.SideSend), row(1, 1, api.SideRecv), {Side: api.SideRecv}}
	for i := range 12 {
		put(t, b, rows[i%3], hd(uint32(i/4+1), 1), i, api.Value{N: int64(i)}, hd(uint32(i+1), 1))
	}
	for _, slot := range []uint32{2, 7, 5} {
		cut(t, b, hd(slot, 1))
	}
	put(t, b, rows[0], hd(2, 1), 40, api.Value{}, hd(2, 2))
	put(t, b, rows[1], hd(1, 1), 41, api.Value{}, hd(5, 2))
	put(t, b, rows[0], hd(3, 1), 42, api.Value{}, hd(7, 2))
	return b
}

// The one that was put first stands ahead, whatever its slot is.
func TestListsInOrder(t *testing.T) {
	b := mixed(t)
	inRow(t, b, row(1, 1, api.SideSend), hd(1, 1), hd(4, 1), hd(10, 1), hd(2, 2), hd(7, 2))
	inRow(t, b, row(1, 1, api.SideRecv), hd(8, 1), hd(11, 1), hd(5, 2))
	inRow(t, b, api.Row{Side: api.SideRecv}, hd(3, 1), hd(6, 1), hd(9, 1), hd(12, 1))
	stand(t, "Of", b.Of(hd(1, 1)), hd(1, 1), hd(3, 1), hd(4, 1), hd(5, 2))
	stand(t, "Of", b.Of(hd(2, 1)), hd(6, 1), hd(8, 1), hd(2, 2))
	stand(t, "Of", b.Of(hd(3, 1)), hd(9, 1), hd(10, 1), hd(11, 1), hd(12, 1), hd(7, 2))
	inAll(t, b, hd(1, 1), hd(3, 1), hd(4, 1), hd(6, 1), hd(8, 1), hd(9, 1), hd(10, 1), hd(11, 1), hd(12, 1), hd(2, 2), hd(5, 2), hd(7, 2))
}

// asked are all lists of a book.
func asked(b *Book) [][]api.Record {
	lists := [][]api.Record{b.All()}
	for _, at := range []api.Row{row(1, 1, api.SideSend), row(1, 1, api.SideRecv), {Side: api.SideRecv}} {
		lists = append(lists, b.Row(at))
	}
	for slot := uint32(1); slot <= 3; slot++ {
		lists = append(lists, b.Of(hd(slot, 1)))
	}
	return lists
}

// A list's owner may write into it, its spare room too: neither the book nor another list changes.
func TestListsAreNew(t *testing.T) {
	b := mixed(t)
	want := asked(b)
	kept := asked(b)
	for i := range want {
		again := asked(b)
		for _, l := range again {
			l = l[:cap(l)]
			for j := range l {
				l[j] = api.Record{Me: hd(77, 77), Who: hd(6, 6), Arm: -9}
			}
		}
		if l := asked(b)[i]; !slices.Equal(l, want[i]) {
			t.Errorf("list %d: %v, want %v", i, l, want[i])
		}
		if !slices.Equal(kept[i], want[i]) {
			t.Errorf("a list that came out before: %v, want %v", kept[i], want[i])
		}
	}
}

// A list that came out stays as it was, whatever is called on the book.
func TestListsStay(t *testing.T) {
	b := mixed(t)
	lists := asked(b)
	var before [][]api.Record
	for _, l := range lists {
		before = append(before, slices.Clone(l))
	}
	leave(t, b, hd(3, 1), 5)
	cut(t, b, hd(1, 1))
	put(t, b, row(1, 1, api.SideSend), hd(8, 1), 0, api.Value{}, hd(1, 2))
	put(t, b, row(1, 1, api.SideRecv), hd(8, 1), 1, api.Value{}, hd(7, 3))
	for i := range lists {
		if !slices.Equal(lists[i], before[i]) {
			t.Errorf("list %d has changed: %v, was %v", i, lists[i], before[i])
		}
	}
}

// What is over is not kept: an empty book has no rows, and no more than its slots.
func TestNothingKept(t *testing.T) {
	b := made(t)
	for i := range uint32(500) {
		put(t, b, row(i, 1, sides[i%4]), hd(i+1, 1), int(i), api.Value{N: 1}, hd(1, i+1))
		cut(t, b, hd(1, i+1))
	}
	if len(b.lines) != 0 || len(b.claims) != 0 || len(b.waits) != 1 || b.waits[0] != (wait{gen: 500}) {
		t.Errorf("kept: %v, %v, %v", b.lines, b.claims, b.waits)
	}
}
