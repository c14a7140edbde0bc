package locks

import (
	"testing"

	"drowse/api"
)

// tangle lets goroutine 5 wait in many rows: its arm 2 for the mutex 1.1, its arms 4 and 6 for the wait group 2.1; goroutine 6 stands behind it in each.
func tangle(t *testing.T) *rig {
	t.Helper()
	r := held(t, who(1))
	m, w := hd(1, 1), hd(2, 1)
	r.make(w, api.KindGroup)
	r.add(w, 1, done())
	rows := []api.Row{row(hd(3, 1), api.SideSend), row(none, api.SideRecv), row(m, api.SideLock), row(none, api.SideLock),
		row(w, api.SideJoin), row(m, api.SideJoin), row(w, api.SideJoin), row(w, api.SideLock), row(m, api.SideLock)}
	for n, at := range rows {
		r.put(at, who(5), n, num(int64(50+n)))
		r.put(at, who(6), n, num(int64(60+n)))
	}
	return r
}

// left looks whether nobody but g waits, and how often.
func left(r *rig, g api.Handle, n int) {
	r.t.Helper()
	if r.b.Count() != n || len(r.b.Of(g)) != n {
		r.t.Fatalf("waits: %v", r.entries())
	}
}

// P16.3: who has the mutex now leaves all rows at once, with the arm of the wait that was served; all others stay.
func TestUnlockLeavesAll(t *testing.T) {
	m, w := hd(1, 1), hd(2, 1)
	r := tangle(t)
	r.unlock(m, wokeArm(who(5), 2))
	r.holds(m, who(5))
	left(r, who(6), 9)
	r.unlock(m, wokeArm(who(6), 2))
	r.holds(m, who(6))
	r.waits()
	r.add(w, -1, done())
	r.unlock(m, done())
}

// P16.4: each joiner is woken once, however often it waits there, and leaves all rows at once.
func TestAddLeavesAll(t *testing.T) {
	m, w := hd(1, 1), hd(2, 1)
	r := tangle(t)
	want := wokeArm(who(5), 4)
	want.Woken = append(want.Woken, wokeArm(who(6), 4).Woken...)
	r.add(w, -1, want)
	r.waits()
	r.holds(m, who(1))
	r.unlock(m, done())
}

// P16.3, P16.4: the first wait that is there when it is served counts, not the first that was ever put.
func TestWakeBehindLeft(t *testing.T) {
	m, w := hd(1, 1), hd(2, 1)
	r := tangle(t)
	r.b.Cut(r.b.Row(row(m, api.SideLock))[0].Me)
	r.unlock(m, wokeArm(who(6), 2))
	left(r, who(5), 8)
	r.b.Cut(r.b.Row(row(w, api.SideJoin))[0].Me)
	r.add(w, -1, wokeArm(who(5), 6))
	r.waits()
}

// P16.4: between two waits of one joiner stands another: it comes second, and the first one does not come again.
func TestAddWakesBetween(t *testing.T) {
	w := hd(2, 1)
	r := counted(t, 1)
	r.put(row(w, api.SideJoin), who(5), 7, num(1))
	r.wait(who(6), w, parked())
	r.put(row(w, api.SideJoin), who(5), 8, num(1))
	r.wait(who(7), w, parked())
	r.put(row(w, api.SideJoin), who(5), -3, num(1))
	want := wokeArm(who(5), 7)
	want.Woken = append(want.Woken, woke(who(6), who(7)).Woken...)
	r.add(w, -1, want)
	r.waits()
}

// T5: who began to wait first is served first, whatever was taken out between and whoever puts waits there.
func TestFirstCome(t *testing.T) {
	m := hd(1, 1)
	r := held(t, who(1))
	for _, n := range []int{9, 3, 7, 5, 8, 4} {
		r.lock(who(n), m, parked())
	}
	r.put(row(m, api.SideLock), who(2), 6, num(1))
	r.b.Leave(who(7))
	r.b.Leave(who(9))
	r.lock(who(9), m, parked())
	arms := map[int]int{2: 6}
	for _, n := range []int{3, 5, 8, 4, 2, 9} {
		r.unlock(m, wokeArm(who(n), arms[n]))
		r.holds(m, who(n))
	}
	r.unlock(m, done())
}

// T5: joiners too; who asks again behind having been woken stands behind who still waits.
func TestFirstComeJoiners(t *testing.T) {
	w := hd(2, 1)
	r := counted(t, 2)
	for _, n := range []int{9, 3, 7, 5} {
		r.wait(who(n), w, parked())
	}
	r.b.Leave(who(9))
	r.wait(who(9), w, parked())
	r.b.Leave(who(7))
	r.wait(who(4), w, parked())
	r.add(w, -2, woke(who(3), who(5), who(9), who(4)))
	r.add(w, 1, done())
	r.wait(who(4), w, parked())
	r.wait(who(3), w, parked())
	r.add(w, -1, woke(who(4), who(3)))
}

// T5: many lockers of several mutexes with one book, whoever unlocks.
func TestFirstComeMany(t *testing.T) {
	r := made(t)
	const many, mutexes = 120, 4
	at := func(n int) api.Handle { return hd(uint32(n%mutexes+1), 1) }
	for n := range mutexes {
		r.make(at(n), api.KindMutex)
		r.lock(who(1), at(n), done())
	}
	for n := range many {
		r.lock(who(2+n), at(n), parked())
	}
	for n := range many {
		r.unlock(at(n), woke(who(2+n)))
		r.holds(at(n), who(2+n))
	}
	r.waits()
	for n := range mutexes {
		r.unlock(at(n), done())
	}
}
