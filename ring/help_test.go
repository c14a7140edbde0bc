package ring

import (
	"slices"
	"testing"

	"drowse/api"
)

// made is a new ring with room for so many.
func made[T any](t *testing.T, size int) *Ring[T] {
	t.Helper()
	r, err := New[T](size)
	if r == nil || err != api.OK {
		t.Fatalf("New(%d): %v, %v", size, r, err)
	}
	return r
}

// put puts things in for which there is room.
func put[T any](t *testing.T, r *Ring[T], things ...T) {
	t.Helper()
	for _, x := range things {
		if err := r.Put(x); err != api.OK {
			t.Fatalf("Put(%v): %v", x, err)
		}
	}
}

// take takes as many things out and looks at each.
func take[T comparable](t *testing.T, r *Ring[T], want ...T) {
	t.Helper()
	for _, w := range want {
		if x, err := r.Take(); x != w || err != api.OK {
			t.Fatalf("Take: %v, %v; want %v", x, err, w)
		}
	}
}

// turned is an empty ring whose first thing will lie so far from where it would in a new one.
func turned(t *testing.T, size, by int) *Ring[int] {
	t.Helper()
	r := made[int](t, size)
	for i := range by {
		put(t, r, -1-i)
		take(t, r, -1-i)
	}
	return r
}

// all goes over All once.
func all[T any](r *Ring[T]) []T {
	var list []T
	for x := range r.All() {
		list = append(list, x)
	}
	return list
}

// same compares what was told.
func same[T comparable](t *testing.T, what string, got, want []T) {
	t.Helper()
	if !slices.Equal(got, want) {
		t.Fatalf("%s: %v, want %v", what, got, want)
	}
}

// refused looks at an At that has no thing to tell.
func refused[T comparable](t *testing.T, r *Ring[T], i int) {
	t.Helper()
	var none T
	if x, err := r.At(i); x != none || err != api.ErrArg {
		t.Fatalf("At(%d): %v, %v", i, x, err)
	}
}

// holds looks at all that a ring tells without being changed, and that what is refused changes nothing.
func holds[T comparable](t *testing.T, r *Ring[T], size int, want ...T) {
	t.Helper()
	var none T
	for range 2 {
		if r.Len() != len(want) || r.Cap() != size {
			t.Fatalf("Len, Cap: %d, %d; want %d, %d", r.Len(), r.Cap(), len(want), size)
		}
		for i, w := range want {
			if x, err := r.At(i); x != w || err != api.OK {
				t.Fatalf("At(%d): %v, %v; want %v", i, x, err, w)
			}
		}
		same(t, "All", all(r), want)
		refused(t, r, -1)
		refused(t, r, len(want))
		refused(t, r, len(want)+1)
		refused(t, r, size)
		if len(want) == size {
			if err := r.Put(none); err != api.ErrRingFull {
				t.Fatalf("Put into a full ring: %v", err)
			}
		}
		if len(want) == 0 {
			if x, err := r.Take(); x != none || err != api.ErrRingEmpty {
				t.Fatalf("Take from an empty ring: %v, %v", x, err)
			}
		}
	}
}
