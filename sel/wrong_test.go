package sel

import (
	"testing"

	"drowse/api"
)

// The section 'Errors': on a nil *Sel each call answers ErrArg, ahead of all else.
func TestNil(t *testing.T) {
	var s *Sel
	for _, arms := range [][]api.Arm{nil, list(in(none)), list(out(ch(1), num(1))), many(in(hd(9, 9)), 50), many(in(none), 51)} {
		if ready, err := s.Poll(arms); len(ready) != 0 || err != api.ErrArg {
			t.Errorf("Poll: %v, %v", ready, err)
		}
		for _, g := range []api.Handle{none, who(5)} {
			for _, i := range []int{-1, 0, 1, 60} {
				if d, err := s.Take(g, arms, i); !sameDid(d, api.Did{}) || err != api.ErrArg {
					t.Errorf("Take: %v, %v", d, err)
				}
			}
			if err := s.Park(g, arms); err != api.ErrArg {
				t.Errorf("Park: %v", err)
			}
		}
	}
}

// The section 'Errors': the numbers, those of chans too; and the limit.
func TestNumbers(t *testing.T) {
	if api.ErrArg != 1 || api.ErrSelMany != 151 || api.ErrSelArm != 152 || api.ErrSelReady != 153 {
		t.Error("an error has another number")
	}
	if api.ErrChansHandle != 141 || api.ErrChansWaits != 143 || api.MaxArms != 50 {
		t.Error("an error of chans, or the limit, has another number")
	}
}

// fault is one thing that is wrong with a call, and the error that it has.
type fault struct {
	name string
	err  api.Errno
	do   func(c *call)
}

// call is a Take or Park.
type call struct {
	r    *rig
	g    api.Handle
	arms []api.Arm
	i    int
}

// right is a call with which nothing is wrong: of Take if an arm is ready.
func right(t *testing.T, ready bool) *call {
	t.Helper()
	c := &call{r: made(t, 1, 0), g: who(5), arms: list(in(ch(2)), out(ch(2), num(1)))}
	if ready {
		c.arms = append(c.arms, out(ch(1), num(1)))
		c.i = 2
	}
	return c
}

// faults are in the order in which they are looked for, but for the last one, which is Take's or Park's own.
func faults() []fault {
	return []fault{
		{"nobody", api.ErrArg, func(c *call) { c.g = none }},
		{"waits", api.ErrChansWaits, func(c *call) { c.r.b.Put(row(none, api.SideLock), who(5), 3, num(1)) }},
		{"many", api.ErrSelMany, func(c *call) { c.arms = append(c.arms, many(in(none), 51)...) }},
		{"no channel", api.ErrChansHandle, func(c *call) { c.arms[1].Chan = hd(9, 9) }},
	}
}

// P15.3, P15.4: of each two things that are wrong the first one of the promise's order is told, in whatever order they came about.
func TestOrderOfErrors(t *testing.T) {
	take := append(faults(), fault{"not ready", api.ErrSelArm, func(c *call) { c.i = 0 }})
	park := append(faults(), fault{"ready", api.ErrSelReady, func(c *call) { c.arms = append(c.arms, out(ch(1), num(1))) }})
	for i := range take {
		for j := range take {
			first := min(i, j)
			c := right(t, true)
			take[i].do(c)
			take[j].do(c)
			c.r.wrongTake(c.g, c.arms, c.i, take[first].err)
			c = right(t, false)
			park[i].do(c)
			park[j].do(c)
			c.r.wrongPark(c.g, c.arms, park[first].err)
		}
	}
	c := right(t, true)
	c.r.take(c.g, c.arms, c.i, api.Did{})
	c = right(t, false)
	c.r.park(c.g, c.arms...)
}

// P1: with another book than the channels' nothing is promised but that each call ends and none panics.
func TestOtherBook(t *testing.T) {
	one, two := made(t, 0, 1), made(t, 0, 1)
	s, err := New(one.c, two.b)
	if err != api.OK {
		t.Fatal(err)
	}
	arms := list(in(ch(1)), out(ch(1), num(1)), out(ch(2), num(2)), in(ch(2)), in(none))
	for n := range 60 {
		g := who(n%6 + 1)
		ready, _ := s.Poll(arms[n%5:])
		for _, i := range ready {
			s.Take(g, arms[n%5:], i)
		}
		s.Park(g, arms[n%5:])
		one.c.Recv(g, ch(n%2+1))
		one.c.Send(g, ch(n%2+1), num(1))
		if n == 40 {
			one.c.Close(ch(1))
		}
	}
}
