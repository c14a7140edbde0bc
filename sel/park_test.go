package sel

import (
	"fmt"
	"slices"
	"testing"

	"drowse/api"
)

// P15.4: each arm has its wait, in their order, in the row of its side, with its number; one that sends with its value, one that receives with none.
func TestParkPuts(t *testing.T) {
	r := made(t, 0, 0)
	r.park(who(5), out(ch(2), num(20)), api.Arm{Chan: ch(1), V: num(99)}, out(none, ref(ch(1))), api.Arm{V: ref(ch(2))}, in(ch(2)), out(ch(1), num(-1)))
	r.waits(
		entry{row(ch(2), api.SideSend), who(5), 0, num(20)},
		entry{row(ch(1), api.SideRecv), who(5), 1, api.Value{}},
		entry{row(none, api.SideSend), who(5), 2, ref(ch(1))},
		entry{row(none, api.SideRecv), who(5), 3, api.Value{}},
		entry{row(ch(2), api.SideRecv), who(5), 4, api.Value{}},
		entry{row(ch(1), api.SideSend), who(5), 5, num(-1)},
	)
}

// P15.4: several arms of one channel stand in one row, one behind the other, each with its own number.
func TestParkOneChannel(t *testing.T) {
	x := ch(1)
	r := made(t, 0)
	r.park(who(5), in(x), out(x, num(1)), in(x), out(x, num(2)), in(x))
	if n := len(r.b.Row(row(x, api.SideRecv))); n != 3 {
		t.Fatalf("%d receivers", n)
	}
	if n := len(r.b.Row(row(x, api.SideSend))); n != 2 {
		t.Fatalf("%d senders", n)
	}
}

// P15.4: waits stand behind those that were there.
func TestParkBehind(t *testing.T) {
	x := ch(1)
	r := made(t, 0)
	r.recv(who(6), x, parked())
	r.park(who(5), in(x), in(none))
	r.recv(who(7), x, parked())
	r.recv(who(8), none, parked())
	r.park(who(9), in(none), in(x))
	for _, g := range []int{6, 5, 7, 9} {
		arm := 0
		if g == 9 {
			arm = 1
		}
		r.send(who(10), x, num(int64(g)), woke(gets(who(g), arm, num(int64(g)))))
	}
	r.waits(entry{row(none, api.SideRecv), who(8), 0, api.Value{}})
}

// P15.4: of no arms there is no wait, and whoever does it can do all else.
func TestParkNothing(t *testing.T) {
	r := made(t, 1)
	r.park(who(5))
	r.park(who(5))
	if err := r.s.Park(who(5), list()); err != api.OK {
		t.Fatalf("Park: %v", err)
	}
	r.waits()
	r.take(who(5), list(out(ch(1), num(1))), 0, api.Did{})
	r.park(who(5), in(none))
	r.wrongPark(who(5), nil, api.ErrChansWaits)
}

// P15.4: any number of arms up to 50 has as many waits.
func TestParkMany(t *testing.T) {
	for n := range api.MaxArms + 1 {
		r := made(t, 0, 1)
		var arms []api.Arm
		for i := range n {
			arms = append(arms, list(in(ch(1)), out(ch(1), num(int64(i))), in(ch(2)), in(none), out(none, num(1)))[i*7%5])
		}
		r.park(who(5), arms...)
		if r.b.Count() != n || len(r.b.Of(who(5))) != n {
			t.Fatalf("%d arms: %d waits", n, r.b.Count())
		}
	}
	r := made(t, 0)
	for _, n := range []int{51, 52, 1000} {
		r.wrongPark(who(5), many(in(ch(1)), n), api.ErrSelMany)
		r.wrongPark(who(5), many(in(none), n), api.ErrSelMany)
		r.wrongPark(who(5), many(in(hd(9, 9)), n), api.ErrSelMany)
	}
	for g := range 40 {
		r.park(who(g+5), many(in(ch(1)), 50)...)
	}
	if r.b.Count() != 2000 {
		t.Fatalf("waits: %d", r.b.Count())
	}
}

// P15.4: where an arm is ready nobody parks, wherever it stands: in each way that a channel can be.
func TestParkReady(t *testing.T) {
	for _, k := range kinds() {
		for at := range 3 {
			for _, arm := range list(out(ch(1), num(1)), in(ch(1))) {
				t.Run(fmt.Sprint(k.name, at, arm.Send), func(t *testing.T) {
					r := made(t)
					k.lay(r, ch(1))
					r.c.Make(ch(2), 0)
					arms := slices.Insert(list(in(ch(2)), in(none)), at, arm)
					if arm.Send && k.canSend || !arm.Send && k.canRecv {
						r.wrongPark(who(5), arms, api.ErrSelReady)
						return
					}
					r.park(who(5), arms...)
				})
			}
		}
	}
	r := made(t, 1, 1)
	r.wrongPark(who(5), list(out(ch(1), num(1)), out(ch(2), num(1))), api.ErrSelReady)
	r.wrongPark(who(5), many(out(ch(1), num(1)), 50), api.ErrSelReady)
}

// P15.4: nobody parks nothing; who waits already does not; both ahead of looking at the arms.
func TestParkWrongWho(t *testing.T) {
	lists := [][]api.Arm{nil, list(out(ch(1), num(1))), list(in(ch(1))), list(in(hd(9, 9))), many(in(hd(9, 9)), 51)}
	r := made(t, 1)
	r.park(who(6), in(ch(1)))
	for _, arms := range lists {
		r.wrongPark(none, arms, api.ErrArg)
	}
	for _, at := range rowsOfAll() {
		for _, arm := range []int{0, 1, -1, 49, 50} {
			r := made(t, 1)
			r.put(at, who(5), arm, num(1))
			for _, arms := range lists {
				r.wrongPark(who(5), arms, api.ErrChansWaits)
			}
			// Another generation in the same slot is somebody else.
			r.park(hd(5, 2), in(none))
		}
	}
}

// P15.4: too many arms, then an arm of no channel, then one that is ready: in this order.
func TestParkWrongArms(t *testing.T) {
	r := made(t, 1, 0)
	r.wrongPark(who(5), many(out(ch(1), num(1)), 51), api.ErrSelMany)
	r.wrongPark(who(5), many(in(hd(9, 9)), 51), api.ErrSelMany)
	for _, other := range list(out(ch(1), num(1)), in(ch(2)), in(none)) {
		for at := range 3 {
			arms := many(other, 3)
			arms[at] = in(hd(9, 9))
			r.wrongPark(who(5), arms, api.ErrChansHandle)
			arms[at].Send = true
			r.wrongPark(who(5), arms, api.ErrChansHandle)
		}
	}
}

// P15.4: who is parked neither takes nor parks nor sends nor receives until it is woken; then it does.
func TestParkAgain(t *testing.T) {
	r := made(t, 0, 1)
	for n := range 20 {
		r.park(who(5), in(ch(1)), in(ch(2)))
		r.wrongPark(who(5), list(in(ch(1))), api.ErrChansWaits)
		r.wrongTake(who(5), list(out(ch(2), num(1))), 0, api.ErrChansWaits)
		if _, err := r.c.Recv(who(5), ch(1)); err != api.ErrChansWaits {
			t.Fatalf("Recv: %v", err)
		}
		r.send(who(6), ch(n%2+1), num(int64(n)), woke(gets(who(5), n%2, num(int64(n)))))
		r.waits()
	}
	r.send(who(5), ch(2), num(3), api.Did{})
	r.take(who(5), list(in(ch(2))), 0, got(num(3)))
}

// P15.4: a channel where a select waits is not dropped; where it has left, it is.
func TestParkHolds(t *testing.T) {
	for _, arm := range list(in(ch(1)), out(ch(1), num(1))) {
		r := made(t, 0, 0)
		r.park(who(5), in(ch(2)), arm)
		if err := r.c.Drop(ch(1)); err != api.ErrChansWaits {
			t.Fatalf("Drop: %v", err)
		}
		r.send(who(6), ch(2), num(1), woke(gets(who(5), 0, num(1))))
		if err := r.c.Drop(ch(1)); err != api.OK {
			t.Fatalf("Drop: %v", err)
		}
	}
}
