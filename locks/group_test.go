package locks

import (
	"math/big"
	"testing"

	"drowse/api"
)

// P16.4: the counter is what was added together; a fate tells that it would be no counter, and it stays.
func TestAdd(t *testing.T) {
	w := hd(2, 1)
	r := counted(t, 0)
	r.add(w, 0, done())
	r.add(w, 1, done())
	r.counts(w, 1)
	r.add(w, -2, fatal(api.FatalCounter))
	r.counts(w, 1)
	r.add(w, -1, done())
	r.counts(w, 0)
	r.add(w, api.MaxCount, done())
	r.counts(w, 1<<31-1)
	r.add(w, 0, done())
	r.add(w, 1, fatal(api.FatalCounter))
	r.add(w, -api.MaxCount-1, fatal(api.FatalCounter))
	r.counts(w, 1<<31-1)
	r.add(w, -api.MaxCount, done())
	r.counts(w, 0)
}

// P16.4: each counter at the edges and each number at the edges, against whole numbers of any size.
func TestAddEdges(t *testing.T) {
	w := hd(2, 1)
	for _, had := range []int64{0, 1, 2, 3, 1 << 30, 1<<31 - 3, 1<<31 - 2, 1<<31 - 1} {
		for _, base := range counts {
			for _, n := range []int64{base, base - had, -base - had, base + had} {
				r := counted(t, had)
				sum := new(big.Int).Add(big.NewInt(had), big.NewInt(n))
				if sum.Sign() < 0 || sum.Cmp(big.NewInt(1<<31-1)) > 0 {
					r.add(w, n, fatal(api.FatalCounter))
					r.counts(w, int(had))
					continue
				}
				r.add(w, n, done())
				r.counts(w, int(sum.Int64()))
			}
		}
	}
}

// P16.4: a counter that comes to 0 wakes all joiners, in their order; one that doesn't wakes nobody.
func TestAddWakes(t *testing.T) {
	w := hd(2, 1)
	for _, many := range []int{0, 1, 2, 3, 200} {
		r := counted(t, 3)
		var order []api.Handle
		for n := range many {
			g := who(1000 - n)
			r.wait(g, w, parked())
			order = append(order, g)
		}
		r.add(w, -1, done())
		r.add(w, 0, done())
		r.add(w, 5, done())
		r.add(w, -8, fatal(api.FatalCounter))
		if r.b.Count() != many {
			t.Fatalf("%d waits, want %d", r.b.Count(), many)
		}
		r.add(w, -7, woke(order...))
		r.counts(w, 0)
		r.waits()
		r.add(w, 0, done())
	}
}

// P16.4: each way to 0 wakes: by one, by all at once, from the greatest counter.
func TestAddWaysToNought(t *testing.T) {
	w := hd(2, 1)
	for _, n := range []int64{1, 2, 1 << 30, 1<<31 - 1} {
		r := counted(t, n)
		r.wait(who(5), w, parked())
		r.add(w, 1-n, done())
		r.waits(joins(who(5), w))
		r.add(w, -1, woke(who(5)))
		r = counted(t, n)
		r.wait(who(5), w, parked())
		r.add(w, -n, woke(who(5)))
		r.counts(w, 0)
	}
}

// P16.4: a counter that is 0 and stays there wakes who was put there by others; so does each Add behind which it is 0.
func TestAddWaitsOfOthers(t *testing.T) {
	w := hd(2, 1)
	r := counted(t, 0)
	r.put(row(w, api.SideJoin), who(7), 4, num(9))
	r.put(row(w, api.SideLock), who(8), 0, num(9))
	r.put(row(w, api.SideRecv), who(8), 1, num(9))
	r.put(row(none, api.SideJoin), who(9), 0, num(9))
	r.put(row(hd(2, 2), api.SideJoin), who(9), 1, num(9))
	r.add(w, -1, fatal(api.FatalCounter))
	r.add(w, 1<<31, fatal(api.FatalCounter))
	r.add(w, 0, wokeArm(who(7), 4))
	if r.b.Count() != 4 || len(r.b.Of(who(7))) != 0 {
		t.Fatalf("waits: %v", r.entries())
	}
	r.put(row(w, api.SideJoin), who(7), 0, num(9))
	r.add(w, 1, done())
	r.wait(who(6), w, parked())
	r.add(w, -1, woke(who(7), who(6)))
}

// P16.5: while the counter is 0 nobody waits, else everybody does, behind one another, with the arm 0 and no value.
func TestWait(t *testing.T) {
	w := hd(2, 1)
	r := counted(t, 0)
	r.wait(who(5), w, done())
	r.wait(who(5), w, done())
	r.waits()
	for _, n := range []int64{1, 2, 1<<31 - 1} {
		r = counted(t, n)
		r.wait(who(9), w, parked())
		r.wait(who(5), w, parked())
		r.wait(hd(5, 2), w, parked())
		r.waits(joins(who(9), w), joins(who(5), w), joins(hd(5, 2), w))
		r.counts(w, int(n))
		r.wrongWait(who(5), w, api.ErrLocksWaits)
		r.add(w, -n, woke(who(9), who(5), hd(5, 2)))
		r.wait(who(5), w, done())
		r.waits()
	}
}

// P16.5: who asks while the counter is 0 goes on, though others have put waits among the joiners.
func TestWaitWaitsOfOthers(t *testing.T) {
	w := hd(2, 1)
	r := counted(t, 0)
	r.put(row(w, api.SideJoin), who(7), 4, num(9))
	r.wait(who(5), w, done())
	r.waits(entry{row(w, api.SideJoin), who(7), 4, num(9)})
}

// P16.4, P16.5: of several wait groups each has its own counter and its own joiners, beside a mutex.
func TestGroupsSeveral(t *testing.T) {
	r := held(t, who(1))
	m, a, b, c := hd(1, 1), hd(1, 2), hd(2, 1), hd(2, 2)
	for n, w := range []api.Handle{a, b, c} {
		r.make(w, api.KindGroup)
		r.add(w, int64(n+1), done())
	}
	r.wait(who(5), b, parked())
	r.wait(who(6), a, parked())
	r.lock(who(7), m, parked())
	r.wait(who(8), b, parked())
	r.wait(who(9), c, parked())
	r.add(b, -2, woke(who(5), who(8)))
	r.counts(a, 1)
	r.counts(b, 0)
	r.counts(c, 3)
	r.waits(joins(who(6), a), wants(who(7), m), joins(who(9), c))
	r.unlock(m, woke(who(7)))
	r.add(a, -1, woke(who(6)))
	r.waits(joins(who(9), c))
	r.add(c, -3, woke(who(9)))
}

// P16.6: Counter tells of wait groups alone.
func TestCounter(t *testing.T) {
	r := counted(t, 4)
	r.make(hd(1, 1), api.KindMutex)
	r.put(row(hd(3, 1), api.SideJoin), who(6), 0, num(1))
	for _, h := range []api.Handle{none, hd(1, 1), hd(2, 2), hd(3, 1), hd(2, 0), hd(0, 1)} {
		if n, err := r.l.Counter(h); n != 0 || err != api.ErrLocksHandle {
			t.Errorf("Counter(%v): %d, %v", h, n, err)
		}
	}
	r.counts(hd(2, 1), 4)
}

// P16.4, P16.5: at none there is no wait group, whatever is added and whoever waits.
func TestGroupNone(t *testing.T) {
	r := counted(t, 1)
	r.put(row(none, api.SideJoin), who(7), 0, num(1))
	for _, n := range counts {
		r.add(none, n, fatal(api.FatalNilGroup))
	}
	r.wait(who(6), none, fatal(api.FatalNilGroup))
}
