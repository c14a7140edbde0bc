package heap

import (
	"testing"

	"drowse/api"
)

// hd is a handle.
func hd(slot, gen uint32) api.Handle { return api.Handle{Slot: slot, Gen: gen} }

// list is some handles.
func list(hs ...api.Handle) []api.Handle { return hs }

// row is the handles of the generation 1 from one slot to another.
func row(from, to int) []api.Handle {
	var hs []api.Handle
	for slot := from; slot <= to; slot++ {
		hs = append(hs, hd(uint32(slot), 1))
	}
	return hs
}

// made is a new heap with room for so many.
func made(t *testing.T, most int) *Heap {
	t.Helper()
	h, err := New(most)
	if h == nil || err != api.OK {
		t.Fatalf("New(%d): %v, %v", most, h, err)
	}
	return h
}

// kindOf is a kind for the n-th object: each of the three in turn.
func kindOf(n int) api.Kind { return api.KindChan + api.Kind(n%3) }

// filled is a new heap for so many, with so many objects in the slots from 1 on.
func filled(t *testing.T, most, objects int) *Heap {
	t.Helper()
	h := made(t, most)
	for n := range objects {
		makes(t, h, kindOf(n), hd(uint32(n+1), 1))
	}
	return h
}

// makes makes an object and looks at its handle.
func makes(t *testing.T, h *Heap, kind api.Kind, want api.Handle) {
	t.Helper()
	if x, err := h.Make(kind); x != want || err != api.OK {
		t.Fatalf("Make(%d): %v, %v; want %v", kind, x, err, want)
	}
}

// refuses looks at a Make that is refused.
func refuses(t *testing.T, h *Heap, kind api.Kind, want api.Errno) {
	t.Helper()
	if x, err := h.Make(kind); x != (api.Handle{}) || err != want {
		t.Fatalf("Make(%d): %v, %v; want %v", kind, x, err, want)
	}
}

// same compares lists of handles.
func same(t *testing.T, what string, got, want []api.Handle) {
	t.Helper()
	if len(got) != len(want) {
		t.Fatalf("%s: %v, want %v", what, got, want)
	}
	for i := range got {
		if got[i] != want[i] {
			t.Fatalf("%s: %v, want %v", what, got, want)
		}
	}
}

// holds looks at all that is told of a heap: just these objects are there, by rising slots.
func holds(t *testing.T, h *Heap, most int, want ...api.Handle) {
	t.Helper()
	same(t, "All", h.All(), want)
	if h.Count() != len(want) || h.Room() != most-len(want) {
		t.Fatalf("Count, Room: %d, %d; want %d, %d", h.Count(), h.Room(), len(want), most-len(want))
	}
	for _, x := range want {
		if _, err := h.Kind(x); err != api.OK {
			t.Fatalf("Kind(%v): %v", x, err)
		}
	}
}

// lives looks at what is told of an object's handle.
func lives(t *testing.T, h *Heap, x api.Handle, kind api.Kind) {
	t.Helper()
	if got, err := h.Kind(x); got != kind || err != api.OK {
		t.Fatalf("Kind(%v): %v, %v; want %v", x, got, err, kind)
	}
	for other := api.Kind(-1); other <= 5; other++ {
		if h.Is(x, other) != (other == kind) {
			t.Fatalf("Is(%v, %d): %v, but it is of the kind %d", x, other, h.Is(x, other), kind)
		}
	}
}

// gone looks at what is told of a handle that no object has.
func gone(t *testing.T, h *Heap, x api.Handle) {
	t.Helper()
	if got, err := h.Kind(x); got != 0 || err != api.ErrHeapHandle {
		t.Fatalf("Kind(%v): %v, %v", x, got, err)
	}
	for kind := api.Kind(-1); kind <= 5; kind++ {
		if h.Is(x, kind) {
			t.Fatalf("Is(%v, %d): true", x, kind)
		}
	}
}

// graph is where objects lead; each answer of its tell is new memory.
type graph map[api.Handle][]api.Handle

// tell is a refs.
func (g graph) tell(x api.Handle) []api.Handle { return append([]api.Handle(nil), g[x]...) }

// asked is a refs that writes down of what it is asked, and looks whether it may be.
func (g graph) asked(t *testing.T, h *Heap, seen map[api.Handle]int) func(api.Handle) []api.Handle {
	t.Helper()
	there := map[api.Handle]bool{}
	for _, x := range h.All() {
		there[x] = true
	}
	return func(x api.Handle) []api.Handle {
		seen[x]++
		if !there[x] {
			t.Errorf("refs is asked of %v, which is no object", x)
		}
		if seen[x] > 1 {
			t.Errorf("refs is asked of %v %d times", x, seen[x])
		}
		return g.tell(x)
	}
}

// reaches looks at a Reach: its answer, of what refs is asked, and that nothing has changed.
func reaches(t *testing.T, h *Heap, most int, g graph, roots []api.Handle, want ...api.Handle) {
	t.Helper()
	before := h.All()
	seen := map[api.Handle]int{}
	same(t, "Reach", h.Reach(roots, g.asked(t, h, seen)), want)
	// Without an answer nobody knows where an object leads.
	for _, x := range want {
		if seen[x] != 1 {
			t.Errorf("refs is asked of %v %d times", x, seen[x])
		}
	}
	holds(t, h, most, before...)
}

// collects looks at a Collect, told what it takes away: its answer, what is left, and P13.4.
func collects(t *testing.T, h *Heap, most int, g graph, roots []api.Handle, want ...api.Handle) {
	t.Helper()
	stay := h.Reach(roots, g.tell)
	same(t, "Collect", h.Collect(roots, g.asked(t, h, map[api.Handle]int{})), want)
	holds(t, h, most, stay...)
	for _, x := range want {
		gone(t, h, x)
	}
	same(t, "Collect again", h.Collect(roots, g.tell), nil)
	holds(t, h, most, stay...)
}
