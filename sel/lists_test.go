package sel

import (
	"slices"
	"testing"

	"drowse/api"
)

// spoil writes over a list, its spare room too.
func spoil[T any](l []T, x T) {
	l = l[:cap(l)]
	for i := range l {
		l[i] = x
	}
}

// junk is an arm that would be seen wherever it is looked at.
var junk = out(hd(77, 77), num(-77))

// What Poll answers is its owner's: writing into it changes neither what comes later nor what came out ahead.
func TestReadyIsNew(t *testing.T) {
	r := made(t, 1, 0)
	arms := list(out(ch(1), num(1)), in(ch(2)), out(ch(1), num(2)))
	ahead, _ := r.s.Poll(arms)
	l, _ := r.s.Poll(arms)
	before := r.state()
	spoil(l, -9)
	r.poll(arms, 0, 2)
	if !slices.Equal(ahead, []int{0, 2}) || r.state() != before {
		t.Errorf("Poll: %v", ahead)
	}
	r.take(who(5), arms, 2, api.Did{})
	r.poll(arms)
	if !slices.Equal(ahead, []int{0, 2}) {
		t.Errorf("Poll: %v", ahead)
	}
}

// What was parked is kept, not the list in which it was handed in.
func TestArmsAreNotKept(t *testing.T) {
	r := made(t, 0, 0)
	arms := list(in(ch(1)), out(ch(2), num(4)))
	r.park(who(5), arms...)
	own := slices.Clone(arms)
	if err := r.s.Park(who(6), own); err != api.OK {
		t.Fatal(err)
	}
	want := r.entries()
	spoil(own, junk)
	r.waits(want...)
	r.recv(who(7), ch(2), got(num(4), sent(who(5), 1)))
	r.recv(who(7), ch(2), got(num(4), sent(who(6), 1)))
	r.waits()
}

// What was taken is sent, whatever becomes of the list behind.
func TestTakenIsNotKept(t *testing.T) {
	r := made(t, 1)
	arms := list(out(ch(1), ref(ch(1))))
	r.take(who(5), arms, 0, api.Did{})
	spoil(arms, junk)
	r.recv(who(5), ch(1), got(ref(ch(1))))
}

// What lies behind a list's length is neither read nor written.
func TestBehindTheList(t *testing.T) {
	for _, n := range []int{0, 1, 2, 49, 50} {
		r := made(t, 0, 1)
		whole := many(junk, 100)
		for i := range n {
			whole[i] = in(ch(1))
		}
		arms := whole[:n]
		r.poll(arms)
		if n > 0 {
			arms[n-1] = out(ch(2), num(1))
			r.poll(arms, n-1)
			r.take(who(5), arms, n-1, api.Did{})
		}
		r.wrongTake(who(5), arms, n, api.ErrSelArm)
		if err := r.s.Park(who(5), arms); err != api.OK || r.b.Count() != n {
			t.Fatalf("Park: %v, %d waits", err, r.b.Count())
		}
		for _, a := range whole[n:] {
			if a != junk {
				t.Fatalf("%d arms: behind them stands %v", n, a)
			}
		}
	}
}

// Whoever was woken by a Take is told in new memory.
func TestWokenIsNew(t *testing.T) {
	r := made(t, 0)
	take := func() api.Did {
		t.Helper()
		r.park(who(6), in(ch(1)), in(none))
		d, err := r.s.Take(who(5), list(out(ch(1), num(1))), 0)
		if err != api.OK || len(d.Woken) != 1 {
			t.Fatalf("Take: %v, %v", d, err)
		}
		return d
	}
	one, two := take(), take()
	before := r.state()
	spoil(two.Woken, api.Wake{Who: hd(77, 77)})
	if !slices.Equal(one.Woken, []api.Wake{gets(who(6), 0, num(1))}) || r.state() != before {
		t.Errorf("Take: %v", one)
	}
}

// What is over is not kept: selects that were parked and woken, channels that are gone.
func TestNothingKept(t *testing.T) {
	r := made(t)
	for n := range uint32(300) {
		x, y := hd(n%7+1, n+1), hd(n%7+10, n+1)
		r.c.Make(x, 0)
		r.c.Make(y, 1)
		r.park(who(5), in(x), in(y), in(none))
		r.take(who(6), list(in(none), out(x, ref(x))), 1, woke(gets(who(5), 0, ref(x))))
		if r.c.Drop(x) != api.OK || r.c.Drop(y) != api.OK {
			t.Fatal("Drop")
		}
	}
	if r.b.Count() != 0 || r.c.Count() != 0 {
		t.Errorf("kept: %v", r.state())
	}
}

// P2: the same calls are answered the same.
func TestAgain(t *testing.T) {
	play := func() (all []any) {
		r := made(t, 0, 1)
		note := func(x any, err api.Errno) { all = append(all, x, err) }
		arms := list(in(ch(1)), out(ch(2), num(3)), in(none))
		for n := range 12 {
			g := who(n%5 + 1)
			ready, err := r.s.Poll(arms)
			note(len(ready), err)
			d, err := r.s.Take(g, arms, n%3)
			note(d.V, err)
			note(0, r.s.Park(g, arms))
			d, err = r.c.Send(who(9), ch(1), num(int64(n)))
			note(len(d.Woken), err)
		}
		return append(all, r.state())
	}
	if one, two := play(), play(); !slices.Equal(one, two) {
		t.Errorf("%v is not %v", one, two)
	}
}
