package slots

import (
	"testing"

	"drowse/api"
)

// hd is a handle.
func hd(slot, gen uint32) api.Handle { return api.Handle{Slot: slot, Gen: gen} }

// made is a new table of so many.
func made[T any](t *testing.T, most int) *Table[T] {
	t.Helper()
	s, err := New[T](most)
	if s == nil || err != api.OK {
		t.Fatalf("New(%d): %v, %v", most, s, err)
	}
	return s
}

// take takes x and looks at the handle.
func take[T any](t *testing.T, s *Table[T], x T, want api.Handle) {
	t.Helper()
	if h, err := s.Take(x); h != want || err != api.OK {
		t.Fatalf("Take(%v): %v, %v; want %v", x, h, err, want)
	}
}

// free frees h, which lives.
func free[T any](t *testing.T, s *Table[T], h api.Handle) {
	t.Helper()
	if err := s.Free(h); err != api.OK {
		t.Fatalf("Free(%v): %v", h, err)
	}
}

// full looks at a Take that has no room.
func full[T any](t *testing.T, s *Table[T], x T) {
	t.Helper()
	if h, err := s.Take(x); h != (api.Handle{}) || err != api.ErrSlotsFull {
		t.Fatalf("Take(%v) on a full table: %v, %v", x, h, err)
	}
}

// pair is what a range goes over.
type pair[T any] struct {
	h api.Handle
	x T
}

// all goes over All once.
func all[T any](s *Table[T]) []pair[T] {
	var list []pair[T]
	for h, x := range s.All() {
		list = append(list, pair[T]{h, x})
	}
	return list
}

// same compares what All tells.
func same[T comparable](t *testing.T, what string, got, want []pair[T]) {
	t.Helper()
	if len(got) != len(want) {
		t.Fatalf("%s: %v, want %v", what, got, want)
	}
	for i := range got {
		if got[i] != want[i] {
			t.Fatalf("%s: %v, want %v", what, got, want)
		}
	}
}

// lives looks at all that is told of a handle that lives.
func lives[T comparable](t *testing.T, s *Table[T], h api.Handle, x T, serial int) {
	t.Helper()
	if got, err := s.Get(h); got != x || err != api.OK {
		t.Fatalf("Get(%v): %v, %v; want %v", h, got, err, x)
	}
	if n, err := s.Serial(h); n != serial || err != api.OK {
		t.Fatalf("Serial(%v): %d, %v; want %d", h, n, err, serial)
	}
	if !s.Lives(h) {
		t.Fatalf("Lives(%v): false", h)
	}
}

// gone looks at each call with a handle that does not live, and that it changed nothing.
func gone[T comparable](t *testing.T, s *Table[T], h api.Handle, other T) {
	t.Helper()
	before, count, born := all(s), s.Count(), s.Born()
	var none T
	if x, err := s.Get(h); x != none || err != api.ErrSlotsHandle {
		t.Fatalf("Get(%v): %v, %v", h, x, err)
	}
	if n, err := s.Serial(h); n != 0 || err != api.ErrSlotsHandle {
		t.Fatalf("Serial(%v): %d, %v", h, n, err)
	}
	if err := s.Set(h, other); err != api.ErrSlotsHandle {
		t.Fatalf("Set(%v): %v", h, err)
	}
	if err := s.Free(h); err != api.ErrSlotsHandle {
		t.Fatalf("Free(%v): %v", h, err)
	}
	if s.Lives(h) {
		t.Fatalf("Lives(%v): true", h)
	}
	same(t, "All behind calls that were refused", all(s), before)
	if s.Count() != count || s.Born() != born {
		t.Fatalf("Count, Born: %d, %d; want %d, %d", s.Count(), s.Born(), count, born)
	}
}

// counts looks at Count and Born.
func counts[T any](t *testing.T, s *Table[T], count, born int) {
	t.Helper()
	if s.Count() != count || s.Born() != born {
		t.Fatalf("Count, Born: %d, %d; want %d, %d", s.Count(), s.Born(), count, born)
	}
}
