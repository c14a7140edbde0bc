package locks

import (
	"slices"
	"testing"

	"drowse/api"
)

// wakes are calls of which each wakes somebody, and what each has told in Woken.
func wakes(t *testing.T) (*rig, []*[]api.Wake) {
	t.Helper()
	r := held(t, who(1))
	m, w := hd(1, 1), hd(2, 1)
	r.make(w, api.KindGroup)
	r.add(w, 1, done())
	var lists []*[]api.Wake
	note := func(d api.Did, err api.Errno) {
		t.Helper()
		if err != api.OK || len(d.Woken) == 0 {
			t.Fatalf("%v, %v", d, err)
		}
		lists = append(lists, &d.Woken)
	}
	r.lock(who(5), m, parked())
	r.lock(who(6), m, parked())
	r.lock(who(9), m, parked())
	note(r.l.Unlock(m))
	for n := range 5 {
		r.wait(who(10+n), w, parked())
	}
	note(r.l.Add(w, -1))
	note(r.l.Unlock(m))
	r.add(w, 2, done())
	r.wait(who(10), w, parked())
	r.wait(who(11), w, parked())
	note(r.l.Add(w, -2))
	return r, lists
}

// spoil writes over a list, its spare room too.
func spoil(l []api.Wake) {
	l = l[:cap(l)]
	for i := range l {
		l[i] = api.Wake{Who: hd(77, 77), Got: api.Got{Arm: -9}}
	}
}

// Whoever was woken is told in new memory: no two answers share any, and nothing of it is kept.
func TestWokenIsNew(t *testing.T) {
	_, want := wakes(t)
	r, lists := wakes(t)
	before := r.state()
	for i := range lists {
		spoil(*lists[i])
		for j := i + 1; j < len(lists); j++ {
			if !slices.Equal(*lists[j], *want[j]) {
				t.Errorf("writing into list %d has changed list %d: %v, want %v", i, j, *lists[j], *want[j])
			}
		}
	}
	if after := r.state(); after != before {
		t.Errorf("writing into lists has changed\n%s to\n%s", before, after)
	}
	r.holds(hd(1, 1), who(6))
}

// A list that came out stays as it was, whatever is called.
func TestWokenStays(t *testing.T) {
	_, want := wakes(t)
	r, lists := wakes(t)
	m, w := hd(1, 1), hd(2, 1)
	r.unlock(m, woke(who(9)))
	r.lock(who(30), m, parked())
	r.unlock(m, woke(who(30)))
	r.add(w, 1, done())
	r.wait(who(31), w, parked())
	r.add(w, -1, woke(who(31)))
	r.drop(m)
	r.drop(w)
	for i := range lists {
		if !slices.Equal(*lists[i], *want[i]) {
			t.Errorf("list %d: %v, want %v", i, *lists[i], *want[i])
		}
	}
}

// What is over is not kept: mutexes and wait groups that are dropped, waits that were served.
func TestNothingKept(t *testing.T) {
	r := made(t)
	for n := range uint32(300) {
		m, w := hd(n%7+1, 2*n+1), hd(n%7+1, 2*n+2)
		r.make(m, api.KindMutex)
		r.make(w, api.KindGroup)
		r.lock(who(5), m, done())
		r.lock(who(6), m, parked())
		r.unlock(m, woke(who(6)))
		r.add(w, 1, done())
		r.wait(who(5), w, parked())
		r.add(w, -1, woke(who(5)))
		r.drop(m)
		r.drop(w)
	}
	if len(r.l.things) != 0 || r.b.Count() != 0 {
		t.Errorf("kept: %v", r.state())
	}
}

// P2: the same calls are answered the same.
func TestAgain(t *testing.T) {
	a, one := wakes(t)
	b, two := wakes(t)
	for i := range one {
		if !slices.Equal(*one[i], *two[i]) {
			t.Errorf("call %d: %v, %v", i, *one[i], *two[i])
		}
	}
	if a.state() != b.state() {
		t.Errorf("%s\nis not\n%s", a.state(), b.state())
	}
}
