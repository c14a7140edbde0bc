package locks

import (
	"math/rand"
	"slices"
	"testing"

	"drowse/api"
)

// log is what the promise speaks of, of one mutex and one wait group: who has asked for the mutex and has not yet given it on, in order; who began to wait at the wait group, in order; and its counter.
type log struct {
	asked, joined []api.Handle
	counter       int64
}

// lock writes down that g asks for the mutex: who asks ahead of all others has it.
func (l *log) lock(r *rig, g api.Handle) {
	r.t.Helper()
	d, err := r.l.Lock(g, hd(1, 1))
	if (d.Fate == api.Done) != (len(l.asked) == 0) || err != api.OK || len(d.Woken) > 0 {
		r.t.Fatalf("Lock by %v behind %v: %v, %v", g, l.asked, d, err)
	}
	l.asked = append(l.asked, g)
}

// unlock writes down that the mutex is given on: just to the next one who asked.
func (l *log) unlock(r *rig) {
	r.t.Helper()
	d, err := r.l.Unlock(hd(1, 1))
	if len(l.asked) == 0 {
		if d.Fate != api.FatalUnlock || err != api.OK {
			r.t.Fatalf("Unlock of a free one: %v, %v", d, err)
		}
		return
	}
	l.asked = l.asked[1:]
	if want := woke(l.asked[:min(1, len(l.asked))]...); err != api.OK || !sameDid(d, want) {
		r.t.Fatalf("Unlock, %v have asked: %v, %v", l.asked, d, err)
	}
}

// wait writes down that g waits for the wait group, if it must.
func (l *log) wait(r *rig, g api.Handle) {
	r.t.Helper()
	d, err := r.l.Wait(g, hd(2, 1))
	if (d.Fate == api.Done) != (l.counter == 0) || err != api.OK || len(d.Woken) > 0 {
		r.t.Fatalf("Wait by %v, counter %d: %v, %v", g, l.counter, d, err)
	}
	if d.Fate == api.Parked {
		l.joined = append(l.joined, g)
	}
}

// add writes down an Add: it wakes just if the counter is 0 behind it, and then all.
func (l *log) add(r *rig, n int64) {
	r.t.Helper()
	d, err := r.l.Add(hd(2, 1), n)
	if sum := l.counter + n; sum < 0 || sum > api.MaxCount {
		if !sameDid(d, fatal(api.FatalCounter)) || err != api.OK {
			r.t.Fatalf("Add %d to %d: %v, %v", n, l.counter, d, err)
		}
		return
	}
	l.counter += n
	want := done()
	if l.counter == 0 {
		want = woke(l.joined...)
	}
	if err != api.OK || !sameDid(d, want) {
		r.t.Fatalf("Add %d, %v wait: %v, %v", n, l.joined, d, err)
	}
	if l.counter == 0 {
		l.joined = nil
	}
}

// check looks whether one at most holds the mutex, the first who asked, and whether all others who asked wait; and nobody while it is free, or while the counter is 0.
func (l *log) check(r *rig) {
	r.t.Helper()
	var locks, joins []api.Handle
	for _, w := range r.b.Row(row(hd(1, 1), api.SideLock)) {
		locks = append(locks, w.Who)
	}
	for _, w := range r.b.Row(row(hd(2, 1), api.SideJoin)) {
		joins = append(joins, w.Who)
	}
	g, _ := r.l.Holder(hd(1, 1))
	n, _ := r.l.Counter(hd(2, 1))
	if g == none && len(locks) > 0 || n == 0 && len(joins) > 0 || r.b.Count() != len(locks)+len(joins) {
		r.t.Fatalf("holder %v, %v wait for it; counter %d, %v wait for it", g, locks, n, joins)
	}
	var has []api.Handle
	if g != none {
		has = append([]api.Handle{g}, locks...)
	}
	if !slices.Equal(has, l.asked) || !slices.Equal(joins, l.joined) || int64(n) != l.counter {
		r.t.Fatalf("the mutex: %v, want %v; the wait group: %d, %v, want %d, %v", has, l.asked, n, joins, l.counter, l.joined)
	}
}

// P16.7, T5: calls by who does not wait, at a mutex and a wait group, by few and by many.
func TestFollows(t *testing.T) {
	for seed := range int64(300) {
		c := rand.New(rand.NewSource(seed))
		r, l := made(t), &log{}
		r.make(hd(1, 1), api.KindMutex)
		r.make(hd(2, 1), api.KindGroup)
		many := c.Intn(40) + 2
		for range 300 {
			g := who(c.Intn(many) + 1)
			waits := len(r.b.Of(g)) > 0
			switch k := c.Intn(10); {
			case k < 3 && !waits:
				l.lock(r, g)
			case k < 5:
				l.unlock(r)
			case k < 8 && !waits:
				l.wait(r, g)
			case k == 8:
				l.add(r, int64(c.Intn(5)-2))
			default:
				l.add(r, -1)
			}
			l.check(r)
		}
	}
}

// P16.7: a mutex goes through the hands of many who ask for it again and again, each once a turn.
func TestGoesRound(t *testing.T) {
	m := hd(1, 1)
	const many, turns = 50, 4
	r := held(t, who(1))
	for n := 2; n <= many; n++ {
		r.lock(who(n), m, parked())
	}
	for turn := range turns * many {
		now, next := turn%many+1, (turn+1)%many+1
		r.holds(m, who(now))
		r.unlock(m, woke(who(next)))
		r.lock(who(now), m, parked())
	}
}

// P16.7: workers who count down wake who joins at the last one's turn alone, whichever that is.
func TestCountDown(t *testing.T) {
	w := hd(2, 1)
	const workers, joiners = 30, 20
	r := counted(t, workers)
	var order []api.Handle
	for n := range workers {
		if n < joiners {
			order = append(order, who(100-n))
			r.wait(who(100-n), w, parked())
		}
		want := done()
		if n == workers-1 {
			want = woke(order...)
		}
		r.add(w, -1, want)
	}
	r.waits()
	r.counts(w, 0)
}
