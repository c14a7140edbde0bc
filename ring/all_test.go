package ring

import (
	"iter"
	"testing"

	"drowse/api"
)

// three is a ring with three things in it, which lie across its end, and what All tells of it.
func three(t *testing.T) (*Ring[int], []int) {
	t.Helper()
	r := turned(t, 5, 4)
	put(t, r, 11, 12, 13)
	return r, []int{11, 12, 13}
}

// over goes over an iterator up to so many.
func over(seq iter.Seq[int], upTo int) []int {
	var got []int
	for x := range seq {
		got = append(got, x)
		if len(got) == upTo {
			break
		}
	}
	return got
}

// P12.3: over none, one and many, from the first on, wherever the first one lies; never nil.
func TestAllSizes(t *testing.T) {
	for _, size := range []int{0, 1, 2, 5, api.MaxBuffer} {
		for by := range min(size+1, 7) {
			r := made[int](t, size)
			if size > 0 {
				r = turned(t, size, size-by)
			}
			var want []int
			for i := range size + 1 {
				if r.All() == nil {
					t.Fatal("All is nil")
				}
				same(t, "All", all(r), want)
				if i < size {
					put(t, r, i*i)
					want = append(want, i*i)
				}
			}
		}
	}
}

// P12.3: a range may be left early, at each of its turns, and the same iterator gone over again.
func TestAllEarly(t *testing.T) {
	r, want := three(t)
	seq := r.All()
	for upTo := 1; upTo <= len(want); upTo++ {
		same(t, "left early", over(seq, upTo), want[:upTo])
	}
	for range 3 {
		same(t, "gone over again", over(seq, 100), want)
	}
	holds(t, r, 5, want...)
}

// P12.3: a range that is left is asked no more.
func TestAllAskedNoMore(t *testing.T) {
	r, _ := three(t)
	turns := 0
	r.All()(func(int) bool {
		turns++
		return turns < 2
	})
	if turns != 2 {
		t.Errorf("%d turns", turns)
	}
}

// P12.3: within itself, by one iterator and by two; the inner range is once left early.
func TestAllWithin(t *testing.T) {
	r, want := three(t)
	seq := r.All()
	for _, inner := range []iter.Seq[int]{seq, r.All()} {
		var got []int
		for x := range seq {
			got = append(got, x)
			upTo := 3
			if len(got) == 2 {
				upTo = 1
			}
			same(t, "inside", over(inner, upTo), want[:upTo])
		}
		same(t, "outside", got, want)
	}
	holds(t, r, 5, want...)
}

// P12.3: what is done to the ring while it is gone over is not seen by that range, but by the next one.
func TestAllMeanwhile(t *testing.T) {
	r, want := three(t)
	seq := r.All()
	var got []int
	for x := range seq {
		got = append(got, x)
		switch len(got) {
		case 1:
			take(t, r, 11, 12)    // what it told, and what it will tell
			put(t, r, 1, 2, 3, 4) // into the places of these too
			holds(t, r, 5, 13, 1, 2, 3, 4)
			same(t, "inside", over(seq, 100), []int{13, 1, 2, 3, 4})
		case 3:
			take(t, r, 13, 1, 2, 3, 4)
			holds(t, r, 5)
			same(t, "inside", over(seq, 100), nil)
		}
	}
	same(t, "the range", got, want)
	same(t, "the next one", all(r), nil)
	put(t, r, 20)
	same(t, "the same iterator", over(seq, 100), []int{20})
}

// P12.3: a range goes over what there is when it begins, not when All is asked for.
func TestAllBegins(t *testing.T) {
	r := made[int](t, 2)
	seq := r.All()
	put(t, r, 1, 2)
	same(t, "behind a Put", over(seq, 100), []int{1, 2})
	take(t, r, 1)
	same(t, "behind a Take", over(seq, 100), []int{2})
	put(t, r, 3)
	same(t, "behind both", over(seq, 100), []int{2, 3})
	take(t, r, 2, 3)
	same(t, "of an empty ring", over(seq, 100), nil)
}

// P12.3: a ring that is filled by each turn of a range ends none the less, and one that is emptied tells all.
func TestAllEnds(t *testing.T) {
	r := made[int](t, api.MaxBuffer)
	put(t, r, 0, 0)
	turns := 0
	for range r.All() {
		turns++
		take(t, r, 0)
		put(t, r, 0, 0)
	}
	if turns != 2 || r.Len() != 4 {
		t.Errorf("%d turns, %d things", turns, r.Len())
	}
	for x := range r.All() {
		turns++
		take(t, r, x)
	}
	if turns != 6 || r.Len() != 0 {
		t.Errorf("%d turns, %d things", turns, r.Len())
	}
}

// P12.3: two ranges that go on in turn do not disturb each other.
func TestAllInTurn(t *testing.T) {
	r, want := three(t)
	next1, stop1 := iter.Pull(r.All())
	defer stop1()
	next2, stop2 := iter.Pull(r.All())
	defer stop2()
	if x, ok := next1(); !ok || x != want[0] {
		t.Fatalf("the first range: %v, %v", x, ok)
	}
	take(t, r, 11)
	put(t, r, 14)
	for _, w := range []int{12, 13} {
		x1, ok1 := next1()
		x2, ok2 := next2()
		if !ok1 || !ok2 || x1 != w || x2 != w {
			t.Fatalf("%v, %v; %v, %v; want %v", x1, ok1, x2, ok2, w)
		}
	}
	if x, ok := next1(); ok {
		t.Errorf("the first range goes on: %v", x)
	}
	if x, ok := next2(); !ok || x != 14 {
		t.Errorf("the later range: %v, %v", x, ok)
	}
	if x, ok := next2(); ok {
		t.Errorf("the later range goes on: %v", x)
	}
}

// P12.3: All of an empty ring and of a nil one may be gone over again, and tells nothing.
func TestAllOfNothing(t *testing.T) {
	var none *Ring[int]
	for _, r := range []*Ring[int]{none, made[int](t, 0), made[int](t, 3), turned(t, 3, 2)} {
		seq := r.All()
		if seq == nil {
			t.Fatal("All is nil")
		}
		for range 3 {
			for x := range seq {
				t.Fatalf("it tells %v", x)
			}
		}
	}
}
