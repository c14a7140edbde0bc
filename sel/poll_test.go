package sel

import (
	"slices"
	"testing"

	"drowse/api"
)

// kind is a channel that is in some way, and whether one could send there and receive.
type kind struct {
	name             string
	lay              func(r *rig, h api.Handle)
	canSend, canRecv bool
}

// kinds are channels in each way that there is. Each is laid by its handle's own goroutines, so that several stand in one rig.
func kinds() []kind {
	size := func(n int) func(*rig, api.Handle) {
		return func(r *rig, h api.Handle) { r.c.Make(h, n) }
	}
	full := func(r *rig, h api.Handle, n int) {
		r.c.Make(h, n)
		for i := range n {
			r.c.Send(who(900), h, ref(hd(h.Slot, uint32(i+1))))
		}
	}
	return []kind{
		{"without room", size(0), false, false},
		{"empty", size(1), true, false},
		{"empty, with much room", size(100), true, false},
		{"full", func(r *rig, h api.Handle) { full(r, h, 2) }, false, true},
		{"full of much", func(r *rig, h api.Handle) { full(r, h, 100) }, false, true},
		{"half full", func(r *rig, h api.Handle) {
			r.c.Make(h, 2)
			r.c.Send(who(900), h, num(1))
		}, true, true},
		{"without room, with a sender", func(r *rig, h api.Handle) {
			r.c.Make(h, 0)
			r.c.Send(hd(h.Slot+300, 1), h, num(1))
		}, false, true},
		{"without room, with a receiver", func(r *rig, h api.Handle) {
			r.c.Make(h, 0)
			r.c.Recv(hd(h.Slot+300, 1), h)
		}, true, false},
		{"empty, with a receiver", func(r *rig, h api.Handle) {
			r.c.Make(h, 1)
			r.c.Recv(hd(h.Slot+300, 1), h)
		}, true, false},
		{"full, with a sender", func(r *rig, h api.Handle) {
			full(r, h, 1)
			r.c.Send(hd(h.Slot+300, 1), h, num(1))
		}, false, true},
		{"closed", func(r *rig, h api.Handle) {
			r.c.Make(h, 0)
			r.c.Close(h)
		}, true, true},
		{"closed, with values", func(r *rig, h api.Handle) {
			full(r, h, 1)
			r.c.Close(h)
		}, true, true},
		{"both sides by a select", func(r *rig, h api.Handle) {
			r.c.Make(h, 0)
			r.s.Park(hd(h.Slot+300, 1), list(in(h), out(h, num(1))))
		}, true, true},
		{"waited at with locks' sides", func(r *rig, h api.Handle) {
			r.c.Make(h, 0)
			r.b.Put(row(h, api.SideLock), hd(h.Slot+300, 1), 0, num(1))
			r.b.Put(row(h, api.SideJoin), hd(h.Slot+400, 1), 0, num(1))
		}, false, false},
	}
}

// ready is just one arm's number, or none.
func ready(is bool) []int {
	if is {
		return []int{0}
	}
	return nil
}

// P15.2: an arm that sends is ready where one can send, one that receives where one can receive, whatever its V.
func TestPollEach(t *testing.T) {
	for _, k := range kinds() {
		t.Run(k.name, func(t *testing.T) {
			r := made(t)
			k.lay(r, ch(1))
			for _, v := range []api.Value{{}, num(7), num(-1), ref(ch(1)), ref(hd(9, 9))} {
				r.poll(list(out(ch(1), v)), ready(k.canSend)...)
				r.poll(list(api.Arm{Chan: ch(1), V: v}), ready(k.canRecv)...)
			}
		})
	}
}

// P15.2: arms are asked one by one, and told by rising numbers: every pair of channels, both sides of each.
func TestPollPairs(t *testing.T) {
	for _, a := range kinds() {
		for _, b := range kinds() {
			t.Run(a.name+" and "+b.name, func(t *testing.T) {
				r := made(t)
				a.lay(r, ch(1))
				b.lay(r, ch(2))
				arms := list(out(ch(1), num(1)), out(ch(2), num(2)), in(none), in(ch(1)), out(none, num(3)), in(ch(2)), out(ch(1), num(4)))
				can := []bool{a.canSend, b.canSend, false, a.canRecv, false, b.canRecv, a.canSend}
				var want []int
				for n, is := range can {
					if is {
						want = append(want, n)
					}
				}
				r.poll(arms, want...)
			})
		}
	}
}

// P15.2: none is never ready, of either side, whoever waits there.
func TestPollNone(t *testing.T) {
	r := made(t, 1)
	arms := list(in(none), out(none, num(1)), api.Arm{V: num(3)}, out(none, api.Value{}))
	r.poll(arms)
	r.recv(who(5), none, parked())
	r.send(who(6), none, num(1), parked())
	r.park(who(7), arms...)
	r.poll(arms)
	r.poll(append(arms, out(ch(1), num(1))), 4)
	r.poll(append(list(out(ch(1), num(1))), arms...), 0)
	r.poll(many(in(none), 50))
}

// P15.2: of no arms nothing is told, also of a list that is not nil.
func TestPollNothing(t *testing.T) {
	r := made(t, 1)
	r.poll(nil)
	r.poll(list())
	r.poll(make([]api.Arm, 0, 60))
	r.poll(many(in(hd(9, 9)), 60)[:0])
}

// P15.2: 50 arms are as good as one, 51 are too many; of each number of arms all that are ready are told.
func TestPollMany(t *testing.T) {
	r := made(t, 1, 0)
	for n := range api.MaxArms + 1 {
		var want []int
		for i := range n {
			want = append(want, i)
		}
		r.poll(many(out(ch(1), num(1)), n), want...)
		r.poll(many(in(ch(1)), n))
		r.poll(many(in(none), n))
		if n > 0 {
			arms := many(in(ch(2)), n)
			arms[n-1] = out(ch(1), num(1))
			r.poll(arms, n-1)
			arms[0] = out(ch(1), num(1))
			r.poll(arms, slices.Compact([]int{0, n - 1})...)
		}
	}
	for _, n := range []int{51, 52, 100, 1000, 100000} {
		r.wrongPoll(many(out(ch(1), num(1)), n), api.ErrSelMany)
		r.wrongPoll(many(in(ch(2)), n), api.ErrSelMany)
		r.wrongPoll(many(in(none), n), api.ErrSelMany)
		r.wrongPoll(many(in(hd(9, 9)), n), api.ErrSelMany)
	}
}

// P15.2: fifty channels, of which every third has a value: just those arms are told.
func TestPollManyChannels(t *testing.T) {
	r := made(t, slices.Repeat([]int{1}, 50)...)
	var arms []api.Arm
	var can, not []int
	for n := range 50 {
		arms = append(arms, in(ch(n+1)))
		if n%3 == 1 {
			r.send(who(5), ch(n+1), num(int64(n)), api.Did{})
			can = append(can, n)
		} else {
			not = append(not, n)
		}
	}
	r.poll(arms, can...)
	for n := range arms {
		arms[n].Send = true
	}
	r.poll(arms, not...)
}

// P15.2: one arm of no channel, and nothing is told, wherever it stands; handles near a channel's are none of its.
func TestPollWrong(t *testing.T) {
	for _, h := range []api.Handle{hd(9, 9), hd(1, 2), hd(2, 1), hd(1, 0), hd(0, 1)} {
		for _, bad := range list(in(h), out(h, num(1))) {
			for _, n := range []int{1, 2, 7, 50} {
				for at := range n {
					for _, other := range list(in(ch(1)), out(ch(1), num(1)), in(none), bad) {
						r := made(t, 1)
						arms := many(other, n)
						arms[at] = bad
						r.wrongPoll(arms, api.ErrChansHandle)
					}
				}
			}
		}
	}
}

// P15.2: rows of what is no channel don't make it one.
func TestPollWrongWaits(t *testing.T) {
	r := made(t, 0)
	r.put(row(ch(2), api.SideSend), who(5), 0, num(1))
	r.put(row(ch(2), api.SideRecv), who(6), 0, num(1))
	r.wrongPoll(list(in(ch(2))), api.ErrChansHandle)
	r.wrongPoll(list(out(ch(2), num(1))), api.ErrChansHandle)
	r.poll(list(in(ch(1))))
}

// P15.2: a channel that is gone is none, one that is made again is another.
func TestPollDropped(t *testing.T) {
	r := made(t, 1)
	arms := list(out(ch(1), num(1)), in(ch(1)))
	r.poll(arms, 0)
	r.send(who(5), ch(1), num(1), api.Did{})
	r.poll(arms, 1)
	r.c.Drop(ch(1))
	r.wrongPoll(arms, api.ErrChansHandle)
	r.c.Make(ch(1), 1)
	r.poll(arms, 0)
}

// P15.2: Poll asks for nobody: who is parked at a channel may be the one that asks.
func TestPollOfParked(t *testing.T) {
	r := made(t, 0)
	r.park(who(5), in(ch(1)), out(ch(1), num(1)))
	r.poll(list(in(ch(1)), out(ch(1), num(1))), 0, 1)
}

// P15.2: what was answered holds as long as nothing is called.
func TestPollAgain(t *testing.T) {
	for n := range 3 {
		r := made(t, 1, 0)
		arms := list(out(ch(1), num(1)), in(ch(2)), out(ch(1), num(2)))
		for range n {
			r.poll(arms, 0, 2)
		}
		r.take(who(5), arms, 2, api.Did{})
		r.poll(arms)
		r.recv(who(5), ch(1), got(num(2)))
	}
}
