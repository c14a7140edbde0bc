package slots

import (
	"iter"
	"testing"

	"drowse/api"
)

// P10.4: over none, one and many, never nil.
func TestAllSizes(t *testing.T) {
	s := made[int](t, 40)
	var want []pair[int]
	for i := range 41 {
		if s.All() == nil {
			t.Fatal("All is nil")
		}
		same(t, "All", all(s), want)
		if i < 40 {
			take(t, s, i*i, hd(uint32(i+1), 1))
			want = append(want, pair[int]{hd(uint32(i+1), 1), i * i})
		}
	}
}

// P10.4: by rising serials, not by slots, nor by generations.
func TestAllOrder(t *testing.T) {
	s := made[int](t, 5)
	for i := range 5 {
		take(t, s, i, hd(uint32(i+1), 1))
	}
	for _, slot := range []uint32{4, 2, 5, 1, 3} { // so serials rise in this order
		free(t, s, hd(slot, 1))
		take(t, s, int(slot)*10, hd(slot, 2))
	}
	same(t, "All", all(s), []pair[int]{{hd(4, 2), 40}, {hd(2, 2), 20}, {hd(5, 2), 50}, {hd(1, 2), 10}, {hd(3, 2), 30}})
	free(t, s, hd(5, 2))
	free(t, s, hd(4, 2))
	take(t, s, 44, hd(4, 3))
	same(t, "All", all(s), []pair[int]{{hd(2, 2), 20}, {hd(1, 2), 10}, {hd(3, 2), 30}, {hd(4, 3), 44}})
}

// three is a table with three things in it, and what All tells of it.
func three(t *testing.T) (*Table[int], []pair[int]) {
	t.Helper()
	s := made[int](t, 5)
	take(t, s, 0, hd(1, 1))
	take(t, s, 1, hd(2, 1))
	free(t, s, hd(1, 1))
	take(t, s, 2, hd(1, 2))
	take(t, s, 3, hd(3, 1))
	return s, []pair[int]{{hd(2, 1), 1}, {hd(1, 2), 2}, {hd(3, 1), 3}}
}

// P10.4: a range may be left early, at each of its turns, and the same iterator gone over again.
func TestAllEarly(t *testing.T) {
	s, want := three(t)
	seq := s.All()
	for stop := range len(want) {
		var got []pair[int]
		for h, x := range seq {
			got = append(got, pair[int]{h, x})
			if len(got) == stop+1 {
				break
			}
		}
		same(t, "left early", got, want[:stop+1])
	}
	for range 3 {
		var got []pair[int]
		for h, x := range seq {
			got = append(got, pair[int]{h, x})
		}
		same(t, "gone over again", got, want)
	}
	counts(t, s, 3, 4)
}

// P10.4: within itself, by one iterator and by two; the inner range is once left early.
func TestAllWithin(t *testing.T) {
	s, want := three(t)
	seq := s.All()
	for _, inner := range []iter.Seq2[api.Handle, int]{seq, s.All()} {
		var outerGot []pair[int]
		for h, x := range seq {
			outerGot = append(outerGot, pair[int]{h, x})
			upTo := 3
			if len(outerGot) == 2 {
				upTo = 1
			}
			var innerGot []pair[int]
			for h, x := range inner {
				innerGot = append(innerGot, pair[int]{h, x})
				if len(innerGot) == upTo {
					break
				}
			}
			same(t, "inside", innerGot, want[:upTo])
		}
		same(t, "outside", outerGot, want)
	}
}

// P10.4: what is done to the table while it is gone over is not seen by that range, but by the next one.
func TestAllMeanwhile(t *testing.T) {
	s, want := three(t)
	seq := s.All()
	var got []pair[int]
	for h, x := range seq {
		got = append(got, pair[int]{h, x})
		switch len(got) {
		case 1:
			free(t, s, hd(2, 1))       // where the range stands
			free(t, s, hd(1, 2))       // ahead of it
			take(t, s, 10, hd(1, 3))   // into a slot that it will tell
			take(t, s, 11, hd(2, 2))   // into the slot that it told
			take(t, s, 12, hd(4, 1))   // into a new one
			err := s.Set(hd(3, 1), 33) // in the place of one that it will tell
			same(t, "inside", all(s), []pair[int]{{hd(3, 1), 33}, {hd(1, 3), 10}, {hd(2, 2), 11}, {hd(4, 1), 12}})
			if err != api.OK {
				t.Fatal(err)
			}
		case 3:
			for h := range s.All() {
				free(t, s, h)
			}
			counts(t, s, 0, 7)
		}
	}
	same(t, "the range", got, want)
	same(t, "the next one", all(s), nil)
	take(t, s, 20, hd(1, 4))
	got = nil
	for h, x := range seq {
		got = append(got, pair[int]{h, x})
	}
	same(t, "the same iterator", got, []pair[int]{{hd(1, 4), 20}})
}

// P10.4: a range goes over what there is when it begins, not when All is called.
func TestAllBegins(t *testing.T) {
	s := made[int](t, 2)
	seq := s.All()
	take(t, s, 1, hd(1, 1))
	take(t, s, 2, hd(2, 1))
	free(t, s, hd(1, 1))
	var got []pair[int]
	for h, x := range seq {
		got = append(got, pair[int]{h, x})
	}
	same(t, "All", got, []pair[int]{{hd(2, 1), 2}})
	free(t, s, hd(2, 1))
	for h, x := range seq {
		t.Fatalf("%v %v", h, x)
	}
}

// P10.4: a table that is filled by each turn of a range ends none the less.
func TestAllEnds(t *testing.T) {
	s := made[int](t, api.MaxGos)
	take(t, s, 0, hd(1, 1))
	turns := 0
	for h, x := range s.All() {
		turns++
		free(t, s, h)
		if _, err := s.Take(x + 1); err != api.OK {
			t.Fatal(err)
		}
		if _, err := s.Take(x + 2); err != api.OK {
			t.Fatal(err)
		}
	}
	if turns != 1 || s.Count() != 2 {
		t.Errorf("%d turns, %d things", turns, s.Count())
	}
}

// P10.4: two ranges that go on in turn do not disturb each other.
func TestAllInTurn(t *testing.T) {
	s, want := three(t)
	next1, stop1 := iter.Pull2(s.All())
	defer stop1()
	next2, stop2 := iter.Pull2(s.All())
	defer stop2()
	for i := range want {
		h1, x1, ok1 := next1()
		if i == 0 {
			take(t, s, 4, hd(4, 1))
			want2 := append(append([]pair[int]{}, want...), pair[int]{hd(4, 1), 4})
			defer func() {
				if h, x, ok := next2(); !ok || (pair[int]{h, x}) != want2[3] {
					t.Errorf("the later range: %v %v %v", h, x, ok)
				}
			}()
		}
		h2, x2, ok2 := next2()
		if !ok1 || !ok2 || (pair[int]{h1, x1}) != want[i] || (pair[int]{h2, x2}) != want[i] {
			t.Fatalf("turn %d: %v %v %v, %v %v %v", i, h1, x1, ok1, h2, x2, ok2)
		}
	}
	if h, x, ok := next1(); ok {
		t.Errorf("the first range goes on: %v %v", h, x)
	}
}
