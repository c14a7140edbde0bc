package ring

import (
	"math/rand"
	"testing"

	"drowse/api"
)

// model is a ring as the chapter says it: all things that were ever put, of which so many were taken.
type model struct {
	size  int
	put   []int
	taken int
}

// held is what is there.
func (m *model) held() []int { return m.put[m.taken:] }

// stepPut puts a thing into both.
func stepPut(t *testing.T, r *Ring[int], m *model) {
	t.Helper()
	x, want := 3*len(m.put)-50, api.OK
	if len(m.held()) == m.size {
		want = api.ErrRingFull
	} else {
		m.put = append(m.put, x)
	}
	if err := r.Put(x); err != want {
		t.Fatalf("Put(%d): %v, want %v", x, err, want)
	}
}

// stepTake takes a thing out of both.
func stepTake(t *testing.T, r *Ring[int], m *model) {
	t.Helper()
	x, want := 0, api.ErrRingEmpty
	if list := m.held(); len(list) > 0 {
		x, want = list[0], api.OK
		m.taken++
	}
	if got, err := r.Take(); got != x || err != want {
		t.Fatalf("Take: %d, %v; want %d, %v", got, err, x, want)
	}
}

// step does one call by chance on both; which way the ring fills is told by lean.
func step(t *testing.T, c *rand.Rand, r *Ring[int], m *model, lean int) {
	t.Helper()
	if c.Intn(10) < lean {
		stepPut(t, r, m)
	} else {
		stepTake(t, r, m)
	}
}

// P12.1 to P12.4 by calls in orders by chance: what a ring tells is what the model says behind each call.
func TestByChance(t *testing.T) {
	for seed := range int64(200) {
		c := rand.New(rand.NewSource(seed))
		size := c.Intn(10)
		r, m := made[int](t, size), &model{size: size}
		for range 12 {
			lean := 1 + c.Intn(9)
			for range 20 {
				step(t, c, r, m, lean)
				holds(t, r, size, m.held()...)
			}
		}
	}
}

// P12.4 by chance on the greatest ring.
func TestGreatestByChance(t *testing.T) {
	c := rand.New(rand.NewSource(3))
	r, m := made[int](t, api.MaxBuffer), &model{size: api.MaxBuffer}
	for range 60 {
		lean := 1 + c.Intn(9)
		for range 70 {
			step(t, c, r, m, lean)
		}
		holds(t, r, api.MaxBuffer, m.held()...)
	}
}

// P12.3 by chance: ranges within ranges, with calls at each of their turns, tell what there was when each began.
func TestRangesByChance(t *testing.T) {
	for seed := range int64(200) {
		c := rand.New(rand.NewSource(seed))
		size := 1 + c.Intn(5)
		r, m := made[int](t, size), &model{size: size}
		for range 20 {
			step(t, c, r, m, 6)
		}
		rangeOver(t, c, r, m, 2)
		holds(t, r, size, m.held()...)
	}
}

// rangeOver goes over All, does calls at each turn, and goes over it again within, so deep.
func rangeOver(t *testing.T, c *rand.Rand, r *Ring[int], m *model, deep int) {
	t.Helper()
	seq := r.All()
	for range c.Intn(3) { // behind All, ahead of the range
		step(t, c, r, m, 6)
	}
	want := m.held()
	upTo := 1 + c.Intn(len(want)+3)
	var got []int
	for x := range seq {
		got = append(got, x)
		for range c.Intn(4) {
			step(t, c, r, m, 6)
		}
		if deep > 0 {
			rangeOver(t, c, r, m, deep-1)
		}
		if len(got) == upTo {
			break
		}
	}
	same(t, "a range", got, want[:min(len(want), upTo)])
}

// P2: the same calls are answered the same.
func TestAgain(t *testing.T) {
	play := func() []int {
		c := rand.New(rand.NewSource(5))
		r, m := made[int](t, 7), &model{size: 7}
		for range 300 {
			step(t, c, r, m, 6)
		}
		return all(r)
	}
	same(t, "again", play(), play())
}
