package chans

import (
	"fmt"
	"slices"
	"testing"

	"drowse/api"
)

// spoil writes over a list, its spare room too.
func spoil[T any](l []T, x T) {
	l = l[:cap(l)]
	for i := range l {
		l[i] = x
	}
}

// A list of handles is its owner's: writing into it changes neither the channel nor a list that came out ahead or behind.
func TestRefsAreNew(t *testing.T) {
	x := hd(1, 1)
	r := with(t, 3, ref(hd(2, 1)), num(1), ref(hd(3, 1)))
	r.send(who(5), x, ref(hd(4, 1)), parked())
	want := []api.Handle{hd(2, 1), hd(3, 1), hd(4, 1)}
	ahead := r.c.Refs(x)
	before := r.state()
	spoil(r.c.Refs(x), hd(77, 77))
	if l := r.c.Refs(x); !slices.Equal(l, want) || !slices.Equal(ahead, want) || r.state() != before {
		t.Errorf("Refs: %v, %v; want %v", ahead, l, want)
	}
}

// A list that came out stays as it was, whatever is called.
func TestRefsStay(t *testing.T) {
	x := hd(1, 1)
	r := with(t, 2, ref(hd(2, 1)), ref(hd(3, 1)))
	r.send(who(5), x, ref(hd(4, 1)), parked())
	want := []api.Handle{hd(2, 1), hd(3, 1), hd(4, 1)}
	list := r.c.Refs(x)
	r.recv(who(6), x, got(ref(hd(2, 1)), sent(who(5), 0)))
	r.send(who(5), x, ref(hd(5, 1)), parked())
	r.recv(who(6), x, got(ref(hd(3, 1)), sent(who(5), 0)))
	r.close(x, api.Did{})
	r.drop(x)
	if !slices.Equal(list, want) {
		t.Errorf("Refs: %v, want %v", list, want)
	}
}

// wakes are calls of which each wakes somebody, and what each has told in Woken.
func wakes(t *testing.T) (*rig, []*[]api.Wake) {
	t.Helper()
	r := with(t, 1)
	r.make(hd(2, 1), 0)
	var lists []*[]api.Wake
	note := func(d api.Did, err api.Errno) {
		t.Helper()
		if err != api.OK || len(d.Woken) == 0 {
			t.Fatalf("%v, %v", d, err)
		}
		lists = append(lists, &d.Woken)
	}
	x, y := hd(1, 1), hd(2, 1)
	r.recv(who(5), x, parked())
	note(r.c.Send(who(6), x, num(1)))
	r.send(who(6), x, num(1), api.Did{})
	r.send(who(6), x, num(2), parked())
	note(r.c.Recv(who(5), x))
	r.send(who(6), y, num(3), parked())
	note(r.c.Recv(who(5), y))
	r.recv(who(5), y, parked())
	r.recv(who(6), y, parked())
	r.put(row(y, api.SideSend), who(7), 0, num(8))
	note(r.c.Close(y))
	r.send(who(5), x, num(5), parked())
	note(r.c.Close(x))
	return r, lists
}

// Whoever was woken is told in new memory: no two answers share any, and nothing of it is kept.
func TestWokenIsNew(t *testing.T) {
	_, want := wakes(t)
	r, lists := wakes(t)
	before := r.state()
	for i := range lists {
		spoil(*lists[i], api.Wake{Who: hd(77, 77), Got: api.Got{Arm: -9}})
		for j := i + 1; j < len(lists); j++ {
			if !slices.Equal(*lists[j], *want[j]) {
				t.Errorf("writing into list %d has changed list %d: %v, want %v", i, j, *lists[j], *want[j])
			}
		}
	}
	if after := r.state(); after != before {
		t.Errorf("writing into lists has changed\n%s to\n%s", before, after)
	}
}

// What is over is not kept: channels that are dropped, waits that were served.
func TestNothingKept(t *testing.T) {
	r := made(t)
	for n := range uint32(300) {
		x := hd(n%7+1, n+1)
		r.make(x, int(n%3))
		r.recv(who(5), x, parked())
		r.send(who(6), x, ref(x), woke(gets(who(5), 0, ref(x))))
		r.drop(x)
	}
	if len(r.c.channels) != 0 || r.b.Count() != 0 {
		t.Errorf("kept: %v", r.state())
	}
}

// P2: the same calls are answered the same.
func TestAgain(t *testing.T) {
	a, one := wakes(t)
	b, two := wakes(t)
	for i := range one {
		if !slices.Equal(*one[i], *two[i]) {
			t.Errorf("call %d: %v, %v", i, *one[i], *two[i])
		}
	}
	if a.state() != b.state() {
		t.Error(fmt.Sprint(a.state(), " is not ", b.state()))
	}
}
