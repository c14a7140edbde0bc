package waitq

import (
	"math"
	"testing"

	"drowse/api"
)

// The rows of the chapter's section 'Examples'.
func TestExamples(t *testing.T) {
	b := made(t)
	s, r := row(1, 1, api.SideSend), row(1, 1, api.SideRecv)
	v := api.Value{N: -8}
	refused(t, b, s, hd(0, 0), 0, api.ErrWaitHandle)
	refused(t, b, row(1, 1, 0), hd(5, 1), 0, api.ErrWaitRow)
	put(t, b, s, hd(5, 1), 0, v, hd(1, 1))
	put(t, b, s, hd(6, 1), 0, v, hd(2, 1))
	refused(t, b, r, hd(5, 1), 0, api.ErrWaitTwice)
	put(t, b, r, hd(5, 1), 1, v, hd(3, 1))
	inRow(t, b, s, hd(1, 1), hd(2, 1))
	stand(t, "Of", b.Of(hd(5, 1)), hd(1, 1), hd(3, 1))
	inRow(t, b, r, hd(3, 1))
	leave(t, b, hd(5, 1), 2)
	leave(t, b, hd(5, 1), 0)
	inRow(t, b, s, hd(2, 1))
	inRow(t, b, r)
	put(t, b, s, hd(7, 1), 0, v, hd(1, 2))
	inRow(t, b, s, hd(2, 1), hd(1, 2))
	over(t, b, hd(1, 1))
	inAll(t, b, hd(2, 1), hd(1, 2))
}

// A new book has no waits; two books have nothing in common.
func TestNew(t *testing.T) {
	a, b := made(t), made(t)
	inAll(t, a)
	put(t, a, row(1, 1, api.SideSend), hd(1, 1), 0, api.Value{}, hd(1, 1))
	inAll(t, a, hd(1, 1))
	inAll(t, b)
	over(t, b, hd(1, 1))
	inRow(t, b, row(1, 1, api.SideSend))
	put(t, b, row(1, 1, api.SideSend), hd(1, 1), 0, api.Value{}, hd(1, 1))
	cut(t, a, hd(1, 1))
	inAll(t, b, hd(1, 1))
	leave(t, a, hd(1, 1), 0)
	inAll(t, b, hd(1, 1))
}

// Every field of a wait comes back as it was put, by every call that tells it.
func TestRecord(t *testing.T) {
	b := made(t)
	var want []api.Record
	for i, arm := range []int{0, -1, 7, math.MinInt, math.MaxInt} {
		r := api.Record{
			Me:  hd(uint32(i+1), 1),
			Who: hd(9, math.MaxUint32),
			Row: row(uint32(i), uint32(i), sides[i%4]),
			Arm: arm,
			V:   api.Value{N: math.MinInt64 + int64(i), H: hd(uint32(i*3), uint32(i))},
		}
		put(t, b, r.Row, r.Who, r.Arm, r.V, r.Me)
		want = append(want, r)
	}
	for i, r := range want {
		if g, ok := b.First(r.Row); g != r || !ok {
			t.Errorf("First: %v, %v; want %v", g, ok, r)
		}
		for name, l := range map[string][]api.Record{"All": b.All()[i:], "Of": b.Of(r.Who)[i:], "Row": b.Row(r.Row)} {
			if len(l) == 0 || l[0] != r {
				t.Errorf("%s: %v, want %v", name, l, r)
			}
		}
	}
}

// Rows of any handle, none too, on each side, are rows by themselves.
func TestRows(t *testing.T) {
	b := made(t)
	ofs := []api.Handle{{}, hd(1, 1), hd(1, 2), hd(2, 1), hd(0, 1), hd(1, 0), hd(math.MaxUint32, math.MaxUint32)}
	slot := uint32(0)
	mine := map[api.Row][]api.Handle{}
	for turn := range 3 {
		for _, of := range ofs {
			for _, side := range sides {
				slot++
				at := api.Row{Of: of, Side: side}
				put(t, b, at, hd(slot, 1), turn, api.Value{}, hd(slot, 1))
				mine[at] = append(mine[at], hd(slot, 1))
			}
		}
	}
	for at, want := range mine {
		inRow(t, b, at, want...)
	}
	for at, want := range mine {
		cut(t, b, want[1])
		inRow(t, b, at, want[0], want[2])
	}
	for at, want := range mine {
		inRow(t, b, at, want[0], want[2])
	}
}

// A row of no Side has none, whatever waits elsewhere; nor has one in which nobody waits; none has no waits.
func TestNobodyThere(t *testing.T) {
	b := made(t)
	for _, at := range []api.Row{{}, {Side: 5}, {Side: -1}, row(1, 1, 0), row(1, 1, api.SideLock), row(2, 1, api.SideSend)} {
		inRow(t, b, at)
	}
	put(t, b, api.Row{Side: api.SideSend}, hd(1, 1), 0, api.Value{}, hd(1, 1))
	put(t, b, row(1, 1, api.SideSend), hd(1, 1), 1, api.Value{}, hd(2, 1))
	for _, at := range []api.Row{{}, {Side: 5}, {Side: -1}, row(1, 1, 0), row(1, 1, api.SideLock), row(2, 1, api.SideSend), row(1, 2, api.SideSend)} {
		inRow(t, b, at)
	}
	stand(t, "Of", b.Of(api.Handle{}))
	stand(t, "Of", b.Of(hd(1, 2)))
	stand(t, "Of", b.Of(hd(2, 1)))
	leave(t, b, api.Handle{}, 0)
	leave(t, b, hd(2, 1), 0)
	leave(t, b, hd(1, 2), 0)
	inAll(t, b, hd(1, 1), hd(2, 1))
}

// line5 is a book with five waits in one row, the waits 1.1 to 5.1 of 11.1 to 15.1.
func line5(t *testing.T) (*Book, api.Row) {
	t.Helper()
	b, at := made(t), row(3, 2, api.SideJoin)
	for i := uint32(1); i <= 5; i++ {
		put(t, b, at, hd(10+i, 1), int(i), api.Value{N: int64(i)}, hd(i, 1))
	}
	return b, at
}

// The front, the middle and the end of a row cut out, in every order: the others keep theirs.
func TestCutEveryOrder(t *testing.T) {
	var try func(gone []uint32)
	try = func(gone []uint32) {
		b, at := line5(t)
		left := []api.Handle{hd(1, 1), hd(2, 1), hd(3, 1), hd(4, 1), hd(5, 1)}
		for _, slot := range gone {
			cut(t, b, hd(slot, 1))
			leave(t, b, hd(10+slot, 1), 0)
			var rest []api.Handle
			for _, x := range left {
				if x.Slot != slot {
					rest = append(rest, x)
				}
			}
			left = rest
			inRow(t, b, at, left...)
			inAll(t, b, left...)
		}
		for next := uint32(1); next <= 5; next++ {
			seen := false
			for _, g := range gone {
				seen = seen || g == next
			}
			if !seen {
				try(append(gone[:len(gone):len(gone)], next))
			}
		}
	}
	try(nil)
}

// A row that was emptied is as a new one.
func TestRowAgain(t *testing.T) {
	b, at := made(t), row(1, 1, api.SideLock)
	for gen := uint32(1); gen <= 4; gen++ {
		put(t, b, at, hd(7, 1), 0, api.Value{}, hd(1, gen))
		inRow(t, b, at, hd(1, gen))
		put(t, b, at, hd(8, 1), 0, api.Value{}, hd(2, gen))
		inRow(t, b, at, hd(1, gen), hd(2, gen))
		cut(t, b, hd(1, gen))
		inRow(t, b, at, hd(2, gen))
		leave(t, b, hd(8, 1), 1)
		inRow(t, b, at)
		inAll(t, b)
	}
}

// Who waits in several rows, and several times in one, leaves all of them together; the others stay in order.
func TestLeave(t *testing.T) {
	b := made(t)
	s, r, l := row(1, 1, api.SideSend), row(1, 1, api.SideRecv), row(2, 1, api.SideLock)
	a, c := hd(5, 1), hd(5, 2)
	put(t, b, s, a, 0, api.Value{}, hd(1, 1))
	put(t, b, s, c, 0, api.Value{}, hd(2, 1))
	put(t, b, s, a, 1, api.Value{}, hd(3, 1))
	put(t, b, s, a, -2, api.Value{}, hd(4, 1))
	put(t, b, r, a, 3, api.Value{}, hd(5, 1))
	put(t, b, r, c, 3, api.Value{}, hd(6, 1))
	put(t, b, l, a, 4, api.Value{}, hd(7, 1))
	put(t, b, s, c, 5, api.Value{}, hd(8, 1))
	cut(t, b, hd(4, 1))
	stand(t, "Of", b.Of(a), hd(1, 1), hd(3, 1), hd(5, 1), hd(7, 1))
	leave(t, b, a, 4)
	for _, slot := range []uint32{1, 3, 5, 7} {
		over(t, b, hd(slot, 1))
	}
	inRow(t, b, s, hd(2, 1), hd(8, 1))
	inRow(t, b, r, hd(6, 1))
	inRow(t, b, l)
	stand(t, "Of", b.Of(c), hd(2, 1), hd(6, 1), hd(8, 1))
	inAll(t, b, hd(2, 1), hd(6, 1), hd(8, 1))
	leave(t, b, c, 3)
	inAll(t, b)
	inRow(t, b, s)
}

// The least slot that no wait has, where several are free; as Gen how many have had it.
func TestLeastSlot(t *testing.T) {
	b, at := line5(t)
	cut(t, b, hd(4, 1))
	cut(t, b, hd(2, 1))
	cut(t, b, hd(5, 1))
	who := hd(30, 1)
	put(t, b, at, who, 0, api.Value{}, hd(2, 2))
	cut(t, b, hd(1, 1))
	put(t, b, at, who, 1, api.Value{}, hd(1, 2))
	put(t, b, at, who, 2, api.Value{}, hd(4, 2))
	cut(t, b, hd(1, 2))
	cut(t, b, hd(3, 1))
	put(t, b, at, who, 1, api.Value{}, hd(1, 3))
	put(t, b, at, who, 3, api.Value{}, hd(3, 2))
	put(t, b, at, who, 4, api.Value{}, hd(5, 2))
	put(t, b, at, who, 5, api.Value{}, hd(6, 1))
	inRow(t, b, at, hd(2, 2), hd(4, 2), hd(1, 3), hd(3, 2), hd(5, 2), hd(6, 1))
	leave(t, b, who, 6)
	for slot, gen := range []uint32{4, 3, 3, 3, 3, 2, 1} {
		put(t, b, at, who, slot, api.Value{}, hd(uint32(slot+1), gen))
	}
}

// A slot that many waits have had.
func TestManyHad(t *testing.T) {
	b, at := made(t), row(1, 1, api.SideSend)
	for gen := uint32(1); gen <= 3000; gen++ {
		who := hd(gen%7+1, gen)
		put(t, b, at, who, int(gen), api.Value{}, hd(1, gen))
		if gen%2 == 0 {
			leave(t, b, who, 1)
		} else {
			cut(t, b, hd(1, gen))
		}
	}
	inAll(t, b)
	for gen := uint32(0); gen <= 3002; gen++ {
		over(t, b, hd(1, gen))
	}
	put(t, b, at, hd(1, 1), 0, api.Value{}, hd(1, 3001))
}

// More waits than a table of goroutines has room for.
func TestManyWaits(t *testing.T) {
	const many = 12*api.MaxGos + 1
	b := made(t)
	rows := []api.Row{row(1, 1, api.SideSend), row(1, 1, api.SideRecv), row(2, 1, api.SideRecv)}
	var all []api.Handle
	for i := range many {
		me := hd(uint32(i+1), 1)
		who := hd(uint32(i%api.MaxGos+1), 1)
		if g, err := b.Put(rows[i%3], who, i/api.MaxGos, api.Value{N: int64(i)}); g != me || err != api.OK {
			t.Fatalf("Put number %d: %v, %v", i, g, err)
		}
		all = append(all, me)
	}
	inAll(t, b, all...)
	if n := len(b.Row(rows[0])) + len(b.Row(rows[1])) + len(b.Row(rows[2])); n != many {
		t.Errorf("%d in rows, want %d", n, many)
	}
	leave(t, b, hd(1, 1), 13)
	leave(t, b, hd(2, 1), 12)
	if b.Count() != many-25 {
		t.Errorf("Count: %d", b.Count())
	}
	for i := range 12 {
		put(t, b, rows[0], hd(9000, 1), 2*i, api.Value{}, hd(uint32(i*api.MaxGos+1), 2))
		put(t, b, rows[0], hd(9000, 1), 2*i+1, api.Value{}, hd(uint32(i*api.MaxGos+2), 2))
	}
	put(t, b, rows[0], hd(9000, 1), -1, api.Value{}, hd(many, 2))
	put(t, b, rows[0], hd(9000, 1), -2, api.Value{}, hd(many+1, 1))
}

// Many waits come and go fast enough, wherever in a row they stand.
func TestManyComeAndGo(t *testing.T) {
	const many = 50000
	b, at := made(t), row(1, 1, api.SideSend)
	for turn := uint32(1); turn <= 3; turn++ {
		for i := range uint32(many) {
			if me, err := b.Put(at, hd(i/50+1, turn), int(i%50), api.Value{}); me != hd(i+1, turn) || err != api.OK {
				t.Fatalf("Put: %v, %v", me, err)
			}
		}
		for i := range uint32(many / 50) {
			if n := b.Leave(hd(many/50-i, turn)); n != 50 {
				t.Fatalf("Leave: %d", n)
			}
		}
	}
	inAll(t, b)
}
