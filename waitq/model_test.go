package waitq

import (
	"math/rand"
	"slices"
	"testing"

	"drowse/api"
)

// model is a book as the chapter says it: all waits that were ever put, in order.
type model struct{ put []entry }

// entry is a wait that was put.
type entry struct {
	r    api.Record
	over bool
}

// next is the handle of the next wait.
func (m *model) next() api.Handle {
	for slot := uint32(1); ; slot++ {
		gen, used := uint32(1), false
		for _, e := range m.put {
			if e.r.Me.Slot == slot {
				gen++
				used = used || !e.over
			}
		}
		if !used {
			return hd(slot, gen)
		}
	}
}

// those are the waits there are of which ask says so.
func (m *model) those(ask func(r api.Record) bool) []api.Record {
	var list []api.Record
	for _, e := range m.put {
		if !e.over && ask(e.r) {
			list = append(list, e.r)
		}
	}
	return list
}

// end ends the waits of which ask says so: how many.
func (m *model) end(ask func(r api.Record) bool) int {
	n := 0
	for i := range m.put {
		if e := &m.put[i]; !e.over && ask(e.r) {
			e.over = true
			n++
		}
	}
	return n
}

// code is what a Put answers.
func (m *model) code(at api.Row, who api.Handle, arm int) api.Errno {
	if who == (api.Handle{}) {
		return api.ErrWaitHandle
	}
	if !slices.Contains(sides, at.Side) {
		return api.ErrWaitRow
	}
	if len(m.those(func(r api.Record) bool { return r.Who == who && r.Arm == arm })) > 0 {
		return api.ErrWaitTwice
	}
	return api.OK
}

// anyMe is the handle of a wait there is, of one that was, or one near those.
func (m *model) anyMe(c *rand.Rand) api.Handle {
	if len(m.put) == 0 || c.Intn(8) == 0 {
		return hd(uint32(c.Intn(6)), uint32(c.Intn(4)))
	}
	me := m.put[c.Intn(len(m.put))].r.Me
	if live := m.those(func(api.Record) bool { return true }); len(live) > 0 && c.Intn(3) > 0 {
		me = live[c.Intn(len(live))].Me
	}
	switch c.Intn(12) {
	case 0:
		me.Gen++
	case 1:
		me.Gen--
	case 2:
		me.Slot++
	case 3:
		me.Slot--
	}
	return me
}

// anyRow is one of a few rows; seldom of no side.
func anyRow(c *rand.Rand) api.Row {
	at := row(uint32(c.Intn(3)), uint32(c.Intn(2)), sides[c.Intn(4)])
	if c.Intn(12) == 0 {
		at.Side = api.Side(c.Intn(9) - 2)
	}
	return at
}

// anyWho is one of a few; seldom none.
func anyWho(c *rand.Rand) api.Handle {
	if c.Intn(12) == 0 {
		return api.Handle{}
	}
	return hd(uint32(c.Intn(4)+1), uint32(c.Intn(2)+1))
}

// step does one call by chance on both and compares.
func step(t *testing.T, c *rand.Rand, b *Book, m *model, much int) {
	t.Helper()
	switch k := c.Intn(10); {
	case k < much:
		at, who, arm, v := anyRow(c), anyWho(c), c.Intn(9)-2, api.Value{N: c.Int63()}
		code := m.code(at, who, arm)
		if code != api.OK {
			refused(t, b, at, who, arm, code)
			return
		}
		me := m.next()
		put(t, b, at, who, arm, v, me)
		m.put = append(m.put, entry{r: api.Record{Me: me, Who: who, Row: at, Arm: arm, V: v}})
	case k == 9:
		who := anyWho(c)
		leave(t, b, who, m.end(func(r api.Record) bool { return r.Who == who }))
	default:
		me := m.anyMe(c)
		if m.end(func(r api.Record) bool { return r.Me == me }) == 0 {
			over(t, b, me)
			return
		}
		cut(t, b, me)
	}
}

// compare looks at all that a book tells.
func compare(t *testing.T, b *Book, m *model) {
	t.Helper()
	all := m.those(func(api.Record) bool { return true })
	if l := b.All(); !slices.Equal(l, all) || b.Count() != len(all) {
		t.Fatalf("All: %v, Count %d; want %v", l, b.Count(), all)
	}
	for _, e := range m.put {
		want, code := e.r, api.OK
		if e.over {
			want, code = api.Record{}, api.ErrWaitHandle
		}
		if r, err := b.Get(e.r.Me); r != want || err != code {
			t.Fatalf("Get(%v): %v, %v; want %v, %v", e.r.Me, r, err, want, code)
		}
		row := m.those(func(r api.Record) bool { return r.Row == e.r.Row })
		if l := b.Row(e.r.Row); !slices.Equal(l, row) {
			t.Fatalf("Row(%v): %v, want %v", e.r.Row, l, row)
		}
		inRow(t, b, e.r.Row, handles(row)...)
		of := m.those(func(r api.Record) bool { return r.Who == e.r.Who })
		if l := b.Of(e.r.Who); !slices.Equal(l, of) {
			t.Fatalf("Of(%v): %v, want %v", e.r.Who, l, of)
		}
	}
}

// Calls in orders by chance: what the book tells is what the model says; no handle is given twice.
func TestByChance(t *testing.T) {
	for seed := range int64(300) {
		c := rand.New(rand.NewSource(seed))
		b, m := made(t), &model{}
		for i := range 100 {
			// At first more come than go, then more go.
			much := 7
			if i/25%2 == 1 {
				much = 3
			}
			step(t, c, b, m, much)
			if i%10 == 9 {
				compare(t, b, m)
			}
		}
		seen := map[api.Handle]int{}
		for _, e := range m.put {
			seen[e.r.Me]++
			if seen[e.r.Me] > 1 {
				t.Fatalf("seed %d: %v was given twice", seed, e.r.Me)
			}
		}
	}
}
