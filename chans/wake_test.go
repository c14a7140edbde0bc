package chans

import (
	"testing"

	"drowse/api"
)

// tangle lets goroutine 5 wait in many rows, its arm 2 as a receiver of 1.1, its arm 4 as a sender there; goroutine 6 stands behind it in each.
func tangle(t *testing.T, size int) *rig {
	t.Helper()
	r := with(t, size)
	r.make(hd(2, 1), 0)
	rows := []api.Row{row(hd(2, 1), api.SideSend), row(none, api.SideRecv), row(hd(1, 1), api.SideRecv),
		row(hd(2, 1), api.SideRecv), row(hd(1, 1), api.SideSend), row(hd(3, 1), api.SideLock), row(hd(4, 1), api.SideJoin), row(none, api.SideSend)}
	for n, at := range rows {
		r.put(at, who(5), n, num(int64(50+n)))
		r.put(at, who(6), n, num(int64(60+n)))
	}
	return r
}

// sixes looks whether all of goroutine 6's waits are left, and nobody else's.
func sixes(r *rig, n int) {
	r.t.Helper()
	if r.b.Count() != n || len(r.b.Of(who(6))) != n {
		r.t.Fatalf("waits: %v", r.entries())
	}
}

// P14.1: who is woken leaves all rows at once, with the arm of the wait that was served; all others stay.
func TestWakeLeavesAll(t *testing.T) {
	x, y := hd(1, 1), hd(2, 1)
	r := tangle(t, 1)
	r.send(who(7), x, num(3), woke(gets(who(5), 2, num(3))))
	sixes(r, 8)
	r = tangle(t, 1)
	r.recv(who(7), x, got(num(54), sent(who(5), 4)))
	sixes(r, 8)
	r.recv(who(7), y, got(num(60), sent(who(6), 0)))
	sixes(r, 0)
	r = tangle(t, 0)
	r.close(y, woke(ends(who(5), 3), ends(who(6), 3)))
	sixes(r, 0)
	r = tangle(t, 1)
	r.b.Cut(r.b.Row(row(x, api.SideRecv))[0].Me)
	r.send(who(7), x, num(3), woke(gets(who(6), 2, num(3))))
	if r.b.Count() != 7 || len(r.b.Of(who(5))) != 7 {
		t.Fatalf("waits: %v", r.entries())
	}
	r.close(x, woke(dies(who(5), 4)))
	sixes(r, 0)
}

// P14.3: a receive from the ring wakes as one from a sender does.
func TestWakeBehindRing(t *testing.T) {
	x := hd(1, 1)
	r := with(t, 1, num(1))
	r.make(hd(2, 1), 0)
	r.put(row(hd(2, 1), api.SideRecv), who(5), 0, num(8))
	r.put(row(x, api.SideSend), who(5), 1, num(2))
	r.put(row(x, api.SideSend), who(6), 0, num(3))
	r.put(row(x, api.SideSend), who(5), 2, num(4))
	r.recv(who(7), x, got(num(1), sent(who(5), 1)))
	r.waits(entry{row(x, api.SideSend), who(6), 0, num(3)})
	r.asks(hd(2, 1), false, false, 0, 0)
	r.recv(who(5), x, got(num(2), sent(who(6), 0)))
	r.recv(who(5), x, got(num(3)))
	r.waits()
}

// T5: who began to wait first is served first, whatever was taken out between and whoever puts waits there.
func TestFirstCome(t *testing.T) {
	x := hd(1, 1)
	r := with(t, 0)
	for _, n := range []int{9, 3, 7, 5, 8, 4} {
		r.recv(who(n), x, parked())
	}
	r.put(row(x, api.SideRecv), who(2), 6, num(1))
	r.b.Leave(who(7))
	r.b.Leave(who(9))
	r.recv(who(9), x, parked())
	arms := map[int]int{2: 6}
	for _, n := range []int{3, 5, 8, 4, 2, 9} {
		r.send(who(1), x, num(int64(n)), woke(gets(who(n), arms[n], num(int64(n)))))
	}
	for _, n := range []int{9, 3, 7, 5, 8, 4} {
		r.send(who(n), x, num(int64(n)), parked())
	}
	r.b.Leave(who(8))
	r.b.Leave(who(4))
	r.send(who(8), x, num(8), parked())
	for _, n := range []int{9, 3, 7, 5, 8} {
		r.recv(who(1), x, got(num(int64(n)), sent(who(n), 0)))
	}
	r.recv(who(1), x, parked())
}

// T5: many who wait come in turn, on each of several channels with one book.
func TestFirstComeMany(t *testing.T) {
	r := made(t)
	const many, channels = 120, 4
	for n := range channels {
		r.make(hd(uint32(n+1), 1), 0)
	}
	at := func(n int) api.Handle { return hd(uint32(n%channels+1), 1) }
	for n := range many {
		r.recv(who(2+n), at(n), parked())
	}
	for n := range many {
		r.send(who(1), at(n), num(int64(n)), woke(gets(who(2+n), 0, num(int64(n)))))
	}
	for n := range many {
		r.send(who(2+n), at(n), num(int64(n)), parked())
	}
	for n := range many {
		r.recv(who(1), at(n), got(num(int64(n)), sent(who(2+n), 0)))
	}
	r.waits()
}
