package sel

import (
	"fmt"
	"math"
	"slices"
	"testing"

	"drowse/api"
)

// P15.3: an arm that sends does what Send does: to who waits, into the ring, or to a closed channel.
func TestTakeSends(t *testing.T) {
	x := ch(1)
	arms := list(out(x, num(8)))
	r := made(t, 0)
	r.recv(who(6), x, parked())
	r.take(who(5), arms, 0, woke(gets(who(6), 0, num(8))))
	r.waits()
	r.wrongTake(who(5), arms, 0, api.ErrSelArm)
	r = made(t, 1)
	r.take(who(5), arms, 0, api.Did{})
	r.waits()
	r.wrongTake(who(5), arms, 0, api.ErrSelArm)
	r.recv(who(6), x, got(num(8)))
	r.close(x, api.Did{})
	r.take(who(5), arms, 0, fatal(api.FatalSendClosed))
	r.take(who(5), arms, 0, fatal(api.FatalSendClosed))
	r.recv(who(6), x, api.Did{})
}

// P15.3: an arm that receives does what Recv does: from the ring, from who waits, or of a closed channel; its V counts for nothing.
func TestTakeReceives(t *testing.T) {
	x := ch(1)
	for _, arm := range list(in(x), api.Arm{Chan: x, V: num(77)}, api.Arm{Chan: x, V: ref(hd(9, 9))}) {
		arms := list(arm)
		r := made(t, 0)
		r.send(who(6), x, num(8), parked())
		r.take(who(5), arms, 0, got(num(8), sent(who(6), 0)))
		r.waits()
		r.wrongTake(who(5), arms, 0, api.ErrSelArm)
		r = made(t, 1)
		r.send(who(6), x, ref(x), api.Did{})
		r.send(who(6), x, num(9), parked())
		r.take(who(5), arms, 0, got(ref(x), sent(who(6), 0)))
		r.take(who(5), arms, 0, got(num(9)))
		r.wrongTake(who(5), arms, 0, api.ErrSelArm)
		r.send(who(6), x, num(10), api.Did{})
		r.close(x, api.Did{})
		r.take(who(5), arms, 0, got(num(10)))
		r.take(who(5), arms, 0, api.Did{})
		r.take(who(5), arms, 0, api.Did{})
	}
}

// P15.3: the arm that is named is taken, none beside it: each of fifty.
func TestTakeNamed(t *testing.T) {
	for i := range 50 {
		r := made(t, slices.Repeat([]int{2}, 25)...)
		var arms []api.Arm
		for n := range 25 {
			r.send(who(6), ch(n+1), num(int64(n)), api.Did{})
			arms = append(arms, in(ch(n+1)), out(ch(n+1), num(int64(100+n))))
		}
		if i%2 == 0 {
			r.take(who(5), arms, i, got(num(int64(i/2))))
		} else {
			r.take(who(5), arms, i, api.Did{})
		}
		for n := range 25 {
			held, _ := r.c.Len(ch(n + 1))
			want := 1
			if n == i/2 {
				want = i % 2 * 2
			}
			if held != want {
				t.Fatalf("arm %d taken: channel %d has %d values", i, n+1, held)
			}
		}
		if i%2 == 1 {
			r.recv(who(6), ch(i/2+1), got(num(int64(i/2))))
			r.recv(who(6), ch(i/2+1), got(num(int64(100+i/2))))
		}
		r.waits()
	}
}

// P15.3: several arms of one channel, of both sides: each is taken by its own number, with its own value.
func TestTakeOneChannel(t *testing.T) {
	x := ch(1)
	r := made(t, 3)
	arms := list(out(x, num(1)), in(x), out(x, num(2)), in(x), out(x, num(3)))
	r.poll(arms, 0, 2, 4)
	r.take(who(5), arms, 4, api.Did{})
	r.take(who(5), arms, 2, api.Did{})
	r.poll(arms, 0, 1, 2, 3, 4)
	r.take(who(5), arms, 0, api.Did{})
	r.poll(arms, 1, 3)
	r.take(who(5), arms, 3, got(num(3)))
	r.take(who(5), arms, 1, got(num(2)))
	r.take(who(5), arms, 1, got(num(1)))
	r.poll(arms, 0, 2, 4)
}

// P15.3: who is parked by a select is woken by a Take, as by a Send or Recv: with that one's arm, and it leaves all its rows.
func TestTakeWakesParked(t *testing.T) {
	r := made(t, 0, 0, 0)
	r.park(who(6), in(none), out(ch(2), num(62)), in(ch(3)), out(ch(1), num(61)))
	r.park(who(7), in(ch(3)), in(none), out(ch(1), num(71)))
	arms := list(out(ch(3), num(5)), in(ch(1)), in(ch(2)))
	r.poll(arms, 0, 1, 2)
	r.take(who(5), arms, 0, woke(gets(who(6), 2, num(5))))
	r.poll(arms, 0, 1)
	r.take(who(5), arms, 1, got(num(71), sent(who(7), 2)))
	r.waits()
	r.poll(arms)
}

// P15.3: who takes is told by its handle alone: others may wait, also in rows of the same channel.
func TestTakeBeside(t *testing.T) {
	r := made(t, 1, 0)
	r.park(who(6), in(ch(1)), in(ch(2)))
	r.park(hd(5, 2), in(ch(2)))
	r.take(who(5), list(out(ch(2), num(4))), 0, woke(gets(who(6), 1, num(4))))
	r.take(who(5), list(out(ch(1), num(4))), 0, api.Did{})
	r.take(who(5), list(out(ch(2), num(6))), 0, woke(gets(hd(5, 2), 0, num(6))))
	r.waits()
}

// P15.3: a number that Poll does not tell: below 0, behind the last arm, of an arm that is not ready.
func TestTakeWrongArm(t *testing.T) {
	for _, n := range []int{0, 1, 2, 50} {
		r := made(t, 1, 0)
		arms := many(out(ch(1), num(1)), n)
		for _, i := range []int{-1, -2, -n, -n - 1, math.MinInt, math.MinInt32, n, n + 1, 2*n + 1, 50, 51, math.MaxInt, math.MaxInt32, 1 << 32, 1 << 8} {
			if i < 0 || i >= n {
				r.wrongTake(who(5), arms, i, api.ErrSelArm)
			}
		}
		for i := range n {
			arms[i] = list(in(none), out(none, num(1)), in(ch(1)), in(ch(2)), out(ch(2), num(1)))[i%5]
		}
		for i := range n {
			r.wrongTake(who(5), arms, i, api.ErrSelArm)
		}
	}
}

// P15.3: which arms are not ready in each way that a channel can be, and which are and are never Parked.
func TestTakeEach(t *testing.T) {
	for _, k := range kinds() {
		for _, arm := range list(out(ch(1), num(1)), in(ch(1))) {
			t.Run(fmt.Sprint(k.name, arm.Send), func(t *testing.T) {
				r, beside := made(t), made(t)
				k.lay(r, ch(1))
				k.lay(beside, ch(1))
				can := arm.Send && k.canSend || !arm.Send && k.canRecv
				arms := list(in(none), arm, in(none))
				if !can {
					r.wrongTake(who(5), arms, 1, api.ErrSelArm)
					return
				}
				call := func() (api.Did, api.Errno) { return beside.c.Recv(who(5), ch(1)) }
				if arm.Send {
					call = func() (api.Did, api.Errno) { return beside.c.Send(who(5), ch(1), arm.V) }
				}
				want, err := call()
				if err != api.OK || want.Fate == api.Parked {
					t.Fatalf("beside: %v, %v", want, err)
				}
				r.take(who(5), arms, 1, want)
				if r.state() != beside.state() {
					t.Fatalf("%s is not %s", r.state(), beside.state())
				}
			})
		}
	}
}

// P15.3: nobody takes nothing, ahead of all else.
func TestTakeByNobody(t *testing.T) {
	r := made(t, 1)
	r.park(who(6), in(ch(1)))
	for _, arms := range [][]api.Arm{nil, list(out(ch(1), num(1))), list(in(ch(1))), list(in(hd(9, 9))), many(in(hd(9, 9)), 51)} {
		for _, i := range []int{0, -1, 1, 60} {
			r.wrongTake(none, arms, i, api.ErrArg)
		}
	}
}

// P15.3: who waits already takes nothing, in whatever row it waits, ahead of looking at the arms.
func TestTakeByWaiter(t *testing.T) {
	for _, at := range rowsOfAll() {
		for _, arm := range []int{0, 1, -1, 49, 50} {
			r := made(t, 1)
			r.put(at, who(5), arm, num(1))
			for _, arms := range [][]api.Arm{nil, list(out(ch(1), num(1))), list(in(ch(1))), list(in(hd(9, 9))), many(in(hd(9, 9)), 51)} {
				for _, i := range []int{0, -1, 1, 60} {
					r.wrongTake(who(5), arms, i, api.ErrChansWaits)
				}
			}
			// Another generation in the same slot is somebody else.
			if _, err := r.s.Take(hd(5, 2), list(out(ch(1), num(1))), 0); err != api.OK {
				t.Fatalf("Take: %v", err)
			}
		}
	}
}

// rowsOfAll are rows of all sides: of none, of a channel, of what is none.
func rowsOfAll() []api.Row {
	var rows []api.Row
	for _, h := range []api.Handle{none, ch(1), hd(9, 9)} {
		for side := api.SideSend; side <= api.SideJoin; side++ {
			rows = append(rows, row(h, side))
		}
	}
	return rows
}

// P15.3: too many arms, then an arm of no channel, then the arm that is named: in this order.
func TestTakeWrongArms(t *testing.T) {
	r := made(t, 1)
	for _, i := range []int{0, 1, 50, 51, -1, 99} {
		r.wrongTake(who(5), many(out(ch(1), num(1)), 51), i, api.ErrSelMany)
		r.wrongTake(who(5), many(in(hd(9, 9)), 51), i, api.ErrSelMany)
		for at := range 3 {
			arms := many(out(ch(1), num(1)), 3)
			arms[at].Chan = hd(9, 9)
			r.wrongTake(who(5), arms, i, api.ErrChansHandle)
		}
	}
}
