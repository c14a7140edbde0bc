package slots

import (
	"math/rand"
	"slices"
	"testing"

	"drowse/api"
)

// model is a table as the chapter says it, by a list of all things that were ever taken.
type model struct {
	most  int
	taken []record
}

// record is a thing that was taken; its serial is its place in the list and one.
type record struct {
	h     api.Handle
	x     int
	lives bool
}

// find is the record of a handle that lives, or nil.
func (m *model) find(h api.Handle) *record {
	for i := range m.taken {
		if r := &m.taken[i]; r.h == h && r.lives {
			return r
		}
	}
	return nil
}

// next is the handle that the next Take gives, or none if all slots are taken.
func (m *model) next() api.Handle {
	for slot := uint32(1); slot <= uint32(m.most); slot++ {
		gen, used := uint32(1), false
		for _, r := range m.taken {
			if r.h.Slot == slot {
				gen++
				used = used || r.lives
			}
		}
		if !used {
			return hd(slot, gen)
		}
	}
	return api.Handle{}
}

// all is what All tells.
func (m *model) all() []pair[int] {
	var list []pair[int]
	for _, r := range m.taken {
		if r.lives {
			list = append(list, pair[int]{r.h, r.x})
		}
	}
	return list
}

// anyHandle is one that lives, one that lived, or one near those.
func (m *model) anyHandle(r *rand.Rand) api.Handle {
	if len(m.taken) == 0 || r.Intn(8) == 0 {
		return hd(uint32(r.Intn(m.most+3)), uint32(r.Intn(4)))
	}
	h := m.taken[r.Intn(len(m.taken))].h
	if living := m.all(); len(living) > 0 && r.Intn(2) == 0 {
		h = living[r.Intn(len(living))].h
	}
	switch r.Intn(12) {
	case 0:
		h.Gen++
	case 1:
		h.Gen--
	case 2:
		h.Slot++
	case 3:
		h.Slot--
	}
	return h
}

// step does one call by chance on both and compares.
func step(t *testing.T, r *rand.Rand, s *Table[int], m *model) {
	t.Helper()
	x := r.Intn(1000) - 500
	if r.Intn(5) < 2 {
		want, code := m.next(), api.OK
		if want == (api.Handle{}) {
			code = api.ErrSlotsFull
		} else {
			m.taken = append(m.taken, record{want, x, true})
		}
		if h, err := s.Take(x); h != want || err != code {
			t.Fatalf("Take: %v, %v; want %v, %v", h, err, want, code)
		}
		return
	}
	h := m.anyHandle(r)
	rec := m.find(h)
	if rec == nil {
		gone(t, s, h, x)
		return
	}
	switch r.Intn(3) {
	case 0:
		free(t, s, h)
		rec.lives = false
	case 1:
		if err := s.Set(h, x); err != api.OK {
			t.Fatalf("Set(%v): %v", h, err)
		}
		rec.x = x
	default:
		lives(t, s, h, rec.x, slices.IndexFunc(m.taken, func(o record) bool { return o.h == h })+1)
	}
}

// compare looks at all that a table tells.
func compare(t *testing.T, s *Table[int], m *model) {
	t.Helper()
	want := m.all()
	same(t, "All", all(s), want)
	counts(t, s, len(want), len(m.taken))
	for i, rec := range m.taken {
		if s.Lives(rec.h) != rec.lives {
			t.Fatalf("Lives(%v): %v", rec.h, !rec.lives)
		}
		if rec.lives {
			lives(t, s, rec.h, rec.x, i+1)
		}
	}
}

// P10.2 to P10.5 by calls in orders by chance: what a table tells is what the model says behind each call; no handle is given twice.
func TestByChance(t *testing.T) {
	for seed := range int64(150) {
		r := rand.New(rand.NewSource(seed))
		most := 1 + r.Intn(9)
		s, m := made[int](t, most), &model{most: most}
		for range 150 {
			step(t, r, s, m)
			compare(t, s, m)
		}
		given := map[api.Handle]int{}
		for _, rec := range m.taken {
			if given[rec.h]++; given[rec.h] > 1 {
				t.Fatalf("%v is given twice", rec.h)
			}
		}
	}
}

// P10.4 by chance: ranges within ranges, with calls at each of their turns, tell what there was when each began.
func TestRangesByChance(t *testing.T) {
	for seed := range int64(150) {
		r := rand.New(rand.NewSource(seed))
		most := 1 + r.Intn(6)
		s, m := made[int](t, most), &model{most: most}
		for range 20 {
			step(t, r, s, m)
		}
		rangeOver(t, r, s, m, 2)
		compare(t, s, m)
	}
}

// rangeOver goes over All, does calls at each turn, and goes over it again within, so deep.
func rangeOver(t *testing.T, r *rand.Rand, s *Table[int], m *model, deep int) {
	t.Helper()
	want := m.all()
	upTo := len(want)
	if r.Intn(3) == 0 {
		upTo = r.Intn(len(want) + 1)
	}
	var got []pair[int]
	for h, x := range s.All() {
		got = append(got, pair[int]{h, x})
		for range r.Intn(4) {
			step(t, r, s, m)
		}
		if deep > 0 {
			rangeOver(t, r, s, m, deep-1)
		}
		if len(got) >= upTo {
			break
		}
	}
	same(t, "a range", got, want[:min(len(want), max(upTo, 1))])
}

// P2: the same calls are answered the same.
func TestAgain(t *testing.T) {
	play := func() []pair[int] {
		r := rand.New(rand.NewSource(5))
		s, m := made[int](t, 7), &model{most: 7}
		for range 300 {
			step(t, r, s, m)
		}
		return all(s)
	}
	same(t, "again", play(), play())
}
