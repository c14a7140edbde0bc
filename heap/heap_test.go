package heap

import (
	"math"
	"testing"

	"drowse/api"
)

// The rows of the chapter's section 'Examples'.
func TestRows(t *testing.T) {
	g := graph{hd(1, 1): list(hd(2, 1)), hd(2, 1): list(hd(1, 1)), hd(3, 1): list(hd(3, 1), hd(9, 9))}
	for _, most := range []int{0, 501} {
		if h, err := New(most); h != nil || err != api.ErrArg {
			t.Errorf("New(%d): %v, %v", most, h, err)
		}
	}
	h := made(t, 3)
	refuses(t, h, 0, api.ErrHeapKind)
	refuses(t, h, 4, api.ErrHeapKind)
	makes(t, h, api.KindChan, hd(1, 1))
	makes(t, h, api.KindMutex, hd(2, 1))
	makes(t, h, api.KindGroup, hd(3, 1))
	refuses(t, h, api.KindChan, api.ErrHeapFull)
	reaches(t, h, 3, g, list(hd(2, 1)), hd(1, 1), hd(2, 1))
	reaches(t, h, 3, g, nil)
	reaches(t, h, 3, g, list(hd(3, 1), hd(7, 1)), hd(3, 1))
	same(t, "Collect", h.Collect(list(hd(3, 1)), g.tell), list(hd(1, 1), hd(2, 1)))
	same(t, "Collect again", h.Collect(list(hd(3, 1)), g.tell), nil)
	makes(t, h, api.KindChan, hd(1, 2))
	gone(t, h, hd(2, 1))
	holds(t, h, 3, hd(1, 2), hd(3, 1))
}

// P13.1: what is not 1 to 500 is refused.
func TestNewWrong(t *testing.T) {
	for _, most := range []int{0, -1, -500, math.MinInt, 501, 502, 1000, math.MaxInt32, math.MaxInt} {
		if h, err := New(most); h != nil || err != api.ErrArg {
			t.Errorf("New(%d): %v, %v", most, h, err)
		}
	}
}

// P13.1, P13.2: each size has room for so many, and for no more.
func TestSizes(t *testing.T) {
	for _, most := range []int{1, 2, 3, 7, 64, 65, 499, 500} {
		h := made(t, most)
		holds(t, h, most)
		for n := range most {
			makes(t, h, kindOf(n), hd(uint32(n+1), 1))
			if h.Count() != n+1 || h.Room() != most-n-1 {
				t.Fatalf("behind %d of %d: Count %d, Room %d", n+1, most, h.Count(), h.Room())
			}
		}
		refuses(t, h, api.KindChan, api.ErrHeapFull)
		refuses(t, h, api.KindMutex, api.ErrHeapFull)
		refuses(t, h, api.KindGroup, api.ErrHeapFull)
		holds(t, h, most, row(1, most)...)
		for n := range most {
			lives(t, h, hd(uint32(n+1), 1), kindOf(n))
		}
	}
}

// P13.1: two heaps know nothing of each other.
func TestTwoHeaps(t *testing.T) {
	a, b := filled(t, 2, 2), filled(t, 2, 1)
	same(t, "Collect", a.Collect(nil, nil), row(1, 2))
	holds(t, a, 2)
	holds(t, b, 2, hd(1, 1))
	makes(t, a, api.KindGroup, hd(1, 2))
	makes(t, b, api.KindGroup, hd(2, 1))
	gone(t, b, hd(1, 2))
}

// P13.2: each of the three kinds, and none beside them; a wrong kind comes ahead of a full heap.
func TestKinds(t *testing.T) {
	wrong := []api.Kind{0, 4, 5, -1, -3, 100, math.MinInt, math.MaxInt}
	for _, kind := range []api.Kind{api.KindChan, api.KindMutex, api.KindGroup} {
		h := made(t, 1)
		for _, k := range wrong {
			refuses(t, h, k, api.ErrHeapKind)
			holds(t, h, 1)
		}
		makes(t, h, kind, hd(1, 1))
		lives(t, h, hd(1, 1), kind)
		for _, k := range wrong {
			refuses(t, h, k, api.ErrHeapKind)
			holds(t, h, 1, hd(1, 1))
		}
		refuses(t, h, kind, api.ErrHeapFull)
		lives(t, h, hd(1, 1), kind)
	}
}

// P13.2: a Make that was refused uses up no slot and no generation.
func TestRefusedTakesNothing(t *testing.T) {
	h := made(t, 2)
	for range 3 {
		refuses(t, h, 0, api.ErrHeapKind)
	}
	makes(t, h, api.KindChan, hd(1, 1))
	refuses(t, h, 4, api.ErrHeapKind)
	makes(t, h, api.KindChan, hd(2, 1))
	for range 3 {
		refuses(t, h, api.KindMutex, api.ErrHeapFull)
		refuses(t, h, -1, api.ErrHeapKind)
	}
	same(t, "Collect", h.Collect(list(hd(1, 1)), nil), list(hd(2, 1)))
	makes(t, h, api.KindGroup, hd(2, 2))
}

// P13.2: the least slot that no object has comes first, and its generation is how many have had it.
func TestLeastSlot(t *testing.T) {
	h := filled(t, 6, 6)
	collects(t, h, 6, nil, list(hd(1, 1), hd(3, 1), hd(6, 1)), hd(2, 1), hd(4, 1), hd(5, 1))
	makes(t, h, api.KindGroup, hd(2, 2))
	makes(t, h, api.KindChan, hd(4, 2))
	collects(t, h, 6, nil, list(hd(1, 1), hd(4, 2), hd(6, 1)), hd(2, 2), hd(3, 1))
	makes(t, h, api.KindMutex, hd(2, 3))
	makes(t, h, api.KindMutex, hd(3, 2))
	makes(t, h, api.KindMutex, hd(5, 2))
	refuses(t, h, api.KindMutex, api.ErrHeapFull)
	holds(t, h, 6, hd(1, 1), hd(2, 3), hd(3, 2), hd(4, 2), hd(5, 2), hd(6, 1))
	for _, x := range list(hd(2, 1), hd(2, 2), hd(3, 1), hd(4, 1), hd(5, 1)) {
		gone(t, h, x)
	}
	lives(t, h, hd(4, 2), api.KindChan)
	lives(t, h, hd(2, 3), api.KindMutex)
}

// P13.2: a slot has as many generations as it has had objects, each with a kind of its own.
func TestGenerations(t *testing.T) {
	h := made(t, 1)
	for gen := uint32(1); gen <= 1000; gen++ {
		kind := kindOf(int(gen))
		makes(t, h, kind, hd(1, gen))
		lives(t, h, hd(1, gen), kind)
		refuses(t, h, kind, api.ErrHeapFull)
		gone(t, h, hd(1, gen-1))
		gone(t, h, hd(1, gen+1))
		same(t, "Collect", h.Collect(nil, nil), list(hd(1, gen)))
		gone(t, h, hd(1, gen))
		holds(t, h, 1)
	}
}

// P13.2: handles that no object has, never had, or has no more.
func TestWrongHandles(t *testing.T) {
	h := filled(t, 4, 3)
	h.Collect(list(hd(1, 1), hd(3, 1)), nil)
	wrong := list(
		api.Handle{}, hd(0, 1), hd(1, 0), hd(2, 0), hd(4, 0),
		hd(2, 1), hd(2, 2), hd(4, 1), hd(1, 2), hd(3, 2),
		hd(5, 1), hd(501, 1), hd(1+1<<16, 1), hd(math.MaxUint32, 1),
		hd(1, math.MaxUint32), hd(math.MaxUint32, math.MaxUint32), hd(0, math.MaxUint32),
	)
	for _, x := range wrong {
		gone(t, h, x)
		holds(t, h, 4, hd(1, 1), hd(3, 1))
	}
	empty := made(t, api.MaxObjects)
	for _, x := range append(wrong, hd(1, 1), hd(3, 1), hd(500, 1)) {
		gone(t, empty, x)
	}
}

// P13.2: All is by rising slots, in whatever order they were made.
func TestAllBySlots(t *testing.T) {
	h := filled(t, 9, 9)
	g := graph{}
	collects(t, h, 9, g, list(hd(9, 1), hd(5, 1), hd(2, 1)), hd(1, 1), hd(3, 1), hd(4, 1), hd(6, 1), hd(7, 1), hd(8, 1))
	makes(t, h, api.KindChan, hd(1, 2))
	makes(t, h, api.KindChan, hd(3, 2))
	holds(t, h, 9, hd(1, 2), hd(2, 1), hd(3, 2), hd(5, 1), hd(9, 1))
	collects(t, h, 9, g, list(hd(3, 2), hd(9, 1)), hd(1, 2), hd(2, 1), hd(5, 1))
	makes(t, h, api.KindChan, hd(1, 3))
	holds(t, h, 9, hd(1, 3), hd(3, 2), hd(9, 1))
	reaches(t, h, 9, g, list(hd(9, 1), hd(1, 3), hd(3, 2)), hd(1, 3), hd(3, 2), hd(9, 1))
}

// P13.2: a list that came out is its owner's, and the next one is another.
func TestAllIsNew(t *testing.T) {
	h := filled(t, 4, 3)
	got, other := h.All(), h.All()
	for i := range got {
		got[i] = hd(7, 7)
	}
	_ = append(got, hd(8, 8))
	same(t, "the other list", other, row(1, 3))
	holds(t, h, 4, row(1, 3)...)
	makes(t, h, api.KindChan, hd(4, 1))
	same(t, "the list that came out ahead of it", other, row(1, 3))
	h.Collect(nil, nil)
	same(t, "the list that came out ahead of Collect", other, row(1, 3))
}

// 'Errors': each call on a nil heap, also where something else is wrong too; refs is not asked.
func TestNil(t *testing.T) {
	var h *Heap
	for kind := api.Kind(-1); kind <= 5; kind++ {
		refuses(t, h, kind, api.ErrArg)
	}
	for _, x := range list(api.Handle{}, hd(1, 1), hd(501, 3)) {
		if kind, err := h.Kind(x); kind != 0 || err != api.ErrArg {
			t.Errorf("Kind(%v): %v, %v", x, kind, err)
		}
		for kind := api.Kind(-1); kind <= 5; kind++ {
			if h.Is(x, kind) {
				t.Errorf("Is(%v, %d): true", x, kind)
			}
		}
	}
	refs := func(x api.Handle) []api.Handle {
		t.Errorf("refs is asked of %v", x)
		return list(x)
	}
	for _, roots := range [][]api.Handle{nil, {}, {hd(1, 1)}, {{}, hd(2, 1)}} {
		same(t, "Reach", h.Reach(roots, refs), nil)
		same(t, "Collect", h.Collect(roots, refs), nil)
		same(t, "Reach", h.Reach(roots, nil), nil)
		same(t, "Collect", h.Collect(roots, nil), nil)
	}
	same(t, "All", h.All(), nil)
	if h.Count() != 0 || h.Room() != 0 {
		t.Errorf("Count, Room: %d, %d", h.Count(), h.Room())
	}
}

// 'Errors': the numbers.
func TestErrorNumbers(t *testing.T) {
	for err, want := range map[api.Errno]int{api.ErrArg: 1, api.ErrHeapFull: 131, api.ErrHeapHandle: 132, api.ErrHeapKind: 133} {
		if int(err) != want {
			t.Errorf("%d, want %d", err, want)
		}
	}
}
