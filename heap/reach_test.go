package heap

import (
	"math"
	"slices"
	"testing"

	"drowse/api"
)

// P13.3: a heap without objects leads nowhere, and refs is not asked.
func TestReachOfEmpty(t *testing.T) {
	h := made(t, 3)
	g := graph{hd(1, 1): list(hd(2, 1)), {}: list(hd(1, 1))}
	for _, roots := range [][]api.Handle{nil, {}, {{}}, row(1, 4), {hd(0, 1), hd(1, 0)}} {
		seen := map[api.Handle]int{}
		same(t, "Reach", h.Reach(roots, g.asked(t, h, seen)), nil)
		same(t, "Collect", h.Collect(roots, g.asked(t, h, seen)), nil)
		if len(seen) != 0 {
			t.Errorf("refs is asked: %v", seen)
		}
		holds(t, h, 3)
	}
}

// P13.3: one object, that leads nowhere, to itself, and to none.
func TestReachOfOne(t *testing.T) {
	for _, leads := range [][]api.Handle{nil, {}, {hd(1, 1)}, {hd(1, 1), hd(1, 1)}, {{}}, {hd(1, 2), hd(2, 1)}} {
		h := filled(t, 1, 1)
		g := graph{hd(1, 1): leads}
		reaches(t, h, 1, g, nil)
		reaches(t, h, 1, g, list(hd(1, 2)))
		reaches(t, h, 1, g, list(hd(1, 1)), hd(1, 1))
		reaches(t, h, 1, g, list(hd(1, 1), hd(1, 1), hd(1, 1)), hd(1, 1))
		collects(t, h, 1, g, list(hd(1, 1)))
		collects(t, h, 1, g, nil, hd(1, 1))
	}
}

// P13.3: what can be come to by several steps, forth and back in the slots, is told by rising slots.
func TestReachSteps(t *testing.T) {
	h := filled(t, 9, 8)
	g := graph{
		hd(5, 1): list(hd(2, 1), hd(8, 1)),
		hd(2, 1): list(hd(7, 1)),
		hd(7, 1): list(hd(1, 1), hd(5, 1)),
		hd(3, 1): list(hd(5, 1)),
		hd(4, 1): list(hd(6, 1), hd(4, 1)),
	}
	reaches(t, h, 9, g, list(hd(5, 1)), hd(1, 1), hd(2, 1), hd(5, 1), hd(7, 1), hd(8, 1))
	reaches(t, h, 9, g, list(hd(3, 1)), hd(1, 1), hd(2, 1), hd(3, 1), hd(5, 1), hd(7, 1), hd(8, 1))
	reaches(t, h, 9, g, list(hd(4, 1)), hd(4, 1), hd(6, 1))
	reaches(t, h, 9, g, list(hd(8, 1), hd(6, 1), hd(1, 1)), hd(1, 1), hd(6, 1), hd(8, 1))
	reaches(t, h, 9, g, list(hd(4, 1), hd(3, 1)), row(1, 8)...)
	reaches(t, h, 9, g, row(1, 8), row(1, 8)...)
	reaches(t, h, 9, g, nil)
	reaches(t, h, 9, g, list())
}

// P13.3: roots and what refs tells may name an object more than once.
func TestReachTwiceNamed(t *testing.T) {
	h := filled(t, 4, 4)
	g := graph{
		hd(1, 1): list(hd(2, 1), hd(2, 1), hd(1, 1), hd(2, 1)),
		hd(2, 1): list(hd(3, 1), hd(1, 1), hd(3, 1)),
		hd(3, 1): list(hd(2, 1), hd(3, 1), hd(3, 1)),
	}
	reaches(t, h, 4, g, list(hd(1, 1), hd(1, 1)), row(1, 3)...)
	reaches(t, h, 4, g, list(hd(3, 1), hd(1, 1), hd(2, 1), hd(3, 1), hd(1, 1)), row(1, 3)...)
	reaches(t, h, 4, g, list(hd(4, 1), hd(4, 1)), hd(4, 1))
	collects(t, h, 4, g, list(hd(2, 1), hd(2, 1)), hd(4, 1))
}

// P13.3: handles of no object count for nothing, among the roots and in what refs tells.
func TestReachWrongHandles(t *testing.T) {
	h := filled(t, 4, 4)
	h.Collect(list(hd(1, 1), hd(3, 1), hd(4, 1)), nil)
	makes(t, h, api.KindChan, hd(2, 2))
	h.Collect(list(hd(1, 1), hd(2, 2), hd(3, 1)), nil)
	wrong := list(
		api.Handle{}, hd(0, 1), hd(1, 0), hd(1, 2), hd(2, 1), hd(2, 3), hd(3, 2), hd(4, 1), hd(4, 2),
		hd(5, 1), hd(500, 1), hd(501, 1), hd(math.MaxUint32, 1), hd(1, math.MaxUint32), hd(math.MaxUint32, math.MaxUint32),
	)
	reaches(t, h, 4, nil, wrong)
	// What refs would tell of those that are no objects counts for nothing: it is not asked.
	g := graph{hd(1, 1): append(slices.Clone(wrong), hd(2, 2))}
	for _, x := range wrong {
		g[x] = list(hd(3, 1))
	}
	reaches(t, h, 4, g, wrong)
	reaches(t, h, 4, g, append(slices.Clone(wrong), hd(1, 1)), hd(1, 1), hd(2, 2))
	collects(t, h, 4, g, append(list(hd(1, 1)), wrong...), hd(3, 1))
	collects(t, h, 4, g, wrong, hd(1, 1), hd(2, 2))
}

// P13.3: a handle of the same slot that lives no more does not keep the object that lives there now.
func TestReachOldGeneration(t *testing.T) {
	h := filled(t, 2, 2)
	h.Collect(list(hd(1, 1)), nil)
	makes(t, h, api.KindMutex, hd(2, 2))
	g := graph{hd(1, 1): list(hd(2, 1))}
	reaches(t, h, 2, g, list(hd(1, 1)), hd(1, 1))
	reaches(t, h, 2, g, list(hd(2, 1)))
	collects(t, h, 2, g, list(hd(1, 1), hd(2, 1)), hd(2, 2))
	makes(t, h, api.KindMutex, hd(2, 3))
	g[hd(1, 1)] = list(hd(2, 1), hd(2, 2), hd(2, 3), hd(2, 4))
	reaches(t, h, 2, g, list(hd(1, 1)), hd(1, 1), hd(2, 3))
}

// P13.3: a nil refs tells nothing of any.
func TestNilRefs(t *testing.T) {
	h := filled(t, 5, 5)
	same(t, "Reach", h.Reach(nil, nil), nil)
	same(t, "Reach", h.Reach(list(hd(4, 1), hd(2, 1), hd(9, 1)), nil), list(hd(2, 1), hd(4, 1)))
	same(t, "Reach", h.Reach(row(1, 5), nil), row(1, 5))
	holds(t, h, 5, row(1, 5)...)
	same(t, "Collect", h.Collect(list(hd(4, 1), hd(2, 1)), nil), list(hd(1, 1), hd(3, 1), hd(5, 1)))
	holds(t, h, 5, hd(2, 1), hd(4, 1))
	same(t, "Collect", h.Collect(nil, nil), list(hd(2, 1), hd(4, 1)))
	holds(t, h, 5)
}

// chain is a graph in which each slot leads to the next one; in a ring the last one leads to the first.
func chain(objects int, ring bool) graph {
	g := graph{}
	for slot := 1; slot < objects; slot++ {
		g[hd(uint32(slot), 1)] = row(slot+1, slot+1)
	}
	if ring {
		g[hd(uint32(objects), 1)] = row(1, 1)
	}
	return g
}

// P13.3: long rows and rings of objects, forth and back, up to a full heap of 500.
func TestLongRows(t *testing.T) {
	for _, n := range []int{2, 3, 64, 500} {
		h := filled(t, n, n)
		last := hd(uint32(n), 1)
		reaches(t, h, n, chain(n, false), row(1, 1), row(1, n)...)
		reaches(t, h, n, chain(n, false), list(last), last)
		reaches(t, h, n, chain(n, false), row(n/2, n/2), row(n/2, n)...)
		reaches(t, h, n, chain(n, true), list(last), row(1, n)...)
		back := graph{}
		for slot := 2; slot <= n; slot++ {
			back[hd(uint32(slot), 1)] = row(slot-1, slot-1)
		}
		reaches(t, h, n, back, list(last), row(1, n)...)
		reaches(t, h, n, back, row(1, 1), hd(1, 1))
		collects(t, h, n, chain(n, true), row(n/2, n/2))
		collects(t, h, n, back, row(1, n/2), row(n/2+1, n)...)
		collects(t, h, n, chain(n, true), nil, row(1, n/2)...)
	}
}

// P13.3: each object leads to all of them.
func TestAllToAll(t *testing.T) {
	h := filled(t, 500, 500)
	g := graph{}
	for _, x := range row(1, 500) {
		g[x] = row(1, 500)
	}
	reaches(t, h, 500, g, row(250, 250), row(1, 500)...)
	reaches(t, h, 500, g, row(1, 500), row(1, 500)...)
	reaches(t, h, 500, g, nil)
	collects(t, h, 500, g, row(500, 500))
	collects(t, h, 500, g, nil, row(1, 500)...)
}

// guarded is a list with something behind its length that must stay.
func guarded(hs ...api.Handle) []api.Handle {
	all := append(slices.Clone(hs), hd(3, 1), hd(3, 1))
	return all[:len(hs)]
}

// whole is a list with what lies behind its length.
func whole(hs []api.Handle) []api.Handle { return slices.Clone(hs[:len(hs)+2]) }

// Rule 4: roots and what refs tells are not written into; what lies behind their length is neither read nor written.
func TestHandedInStays(t *testing.T) {
	for _, call := range []func(*Heap, []api.Handle, func(api.Handle) []api.Handle) []api.Handle{(*Heap).Reach, (*Heap).Collect} {
		h := filled(t, 5, 5)
		roots := guarded(hd(4, 1), hd(9, 9), hd(1, 1), hd(1, 1))
		tells := map[api.Handle][]api.Handle{
			hd(1, 1): guarded(hd(2, 1), hd(7, 1)),
			hd(2, 1): guarded(),
			hd(4, 1): guarded(hd(4, 1), api.Handle{}, hd(1, 1)),
		}
		before := map[api.Handle][]api.Handle{{}: whole(roots)}
		for x, told := range tells {
			before[x] = whole(told)
		}
		call(h, roots, func(x api.Handle) []api.Handle { return tells[x] })
		same(t, "the roots", whole(roots), before[api.Handle{}])
		for x, told := range tells {
			same(t, "what refs told", whole(told), before[x])
		}
		same(t, "Reach", h.Reach(roots, func(x api.Handle) []api.Handle { return tells[x] }), list(hd(1, 1), hd(2, 1), hd(4, 1)))
	}
}

// P13.3: what refs tells is not kept: it may tell each time in the same memory, and change it afterwards.
func TestToldInOneMemory(t *testing.T) {
	g := graph{
		hd(1, 1): list(hd(2, 1), hd(3, 1), hd(4, 1)),
		hd(2, 1): list(hd(5, 1), hd(5, 1), hd(5, 1)),
		hd(3, 1): list(hd(6, 1), hd(1, 1)),
		hd(4, 1): list(hd(7, 1)),
		hd(7, 1): list(api.Handle{}, hd(8, 1)),
	}
	memory := make([]api.Handle, 3)
	refs := func(x api.Handle) []api.Handle {
		for i := range memory {
			memory[i] = hd(9, 1) // what was told ahead of this is gone
		}
		return memory[:copy(memory, g[x])]
	}
	h := filled(t, 9, 9)
	got := h.Reach(row(1, 1), refs)
	same(t, "Reach", got, row(1, 8))
	same(t, "Collect", h.Collect(row(1, 1), refs), row(9, 9))
	refs(hd(1, 1))
	same(t, "what Reach told", got, row(1, 8))
	holds(t, h, 9, row(1, 8)...)
}

// P13.3: roots are not kept, and not looked at again: refs may change them.
func TestRootsAreRead(t *testing.T) {
	h := filled(t, 3, 3)
	roots := row(1, 2)
	refs := func(api.Handle) []api.Handle {
		roots[0], roots[1] = hd(3, 1), hd(3, 1)
		return nil
	}
	same(t, "Reach", h.Reach(roots, refs), row(1, 2))
	roots = row(1, 2)
	same(t, "Collect", h.Collect(roots, refs), row(3, 3))
	holds(t, h, 3, row(1, 2)...)
}

// Rule 4: what comes out is new memory, also where it has the same elements as what went in.
func TestAnswersAreNew(t *testing.T) {
	h := filled(t, 4, 4)
	roots, told := row(1, 3), row(1, 3)
	refs := func(api.Handle) []api.Handle { return told }
	got, other := h.Reach(roots, refs), h.Reach(roots, refs)
	for i := range got {
		got[i] = hd(7, 7)
	}
	_ = append(got, hd(8, 8))
	same(t, "the other answer", other, row(1, 3))
	same(t, "the roots", roots, row(1, 3))
	same(t, "what refs told", told, row(1, 3))
	same(t, "All", h.All(), row(1, 4))
	gone := h.Collect(roots, refs)
	same(t, "Collect", gone, row(4, 4))
	gone[0] = hd(1, 1)
	_ = append(gone, hd(2, 1))
	holds(t, h, 4, row(1, 3)...)
	roots[0], told[0] = hd(4, 1), hd(4, 1)
	holds(t, h, 4, row(1, 3)...)
	same(t, "the other answer", other, row(1, 3))
}

// P13.3: Reach changes nothing: neither what there is, nor which slots and generations come next.
func TestReachChangesNothing(t *testing.T) {
	play := func(look bool) (out []api.Handle) {
		h := made(t, 4)
		g := graph{hd(2, 1): list(hd(3, 1)), hd(1, 2): list(hd(1, 2))}
		for i := range 40 {
			if look {
				h.Reach(nil, g.tell)
				h.Reach(h.All(), g.tell)
				h.Reach(list(hd(2, 1), hd(4, 1)), g.tell)
			}
			if x, err := h.Make(kindOf(i)); err == api.OK {
				out = append(out, x)
			}
			if i%5 == 4 {
				out = append(out, h.Collect(row(i%4+1, 4), g.tell)...)
			}
			out = append(out, h.All()...)
		}
		return out
	}
	same(t, "with looks between", play(true), play(false))
}

// P1: a refs that panics tells nothing of that object; the others count, and the heap goes on.
func TestRefsPanics(t *testing.T) {
	g := graph{hd(1, 1): list(hd(2, 1)), hd(2, 1): list(hd(3, 1)), hd(4, 1): list(hd(5, 1))}
	refs := func(x api.Handle) []api.Handle {
		if x == hd(2, 1) {
			panic("no answer")
		}
		return g.tell(x)
	}
	h := filled(t, 6, 6)
	roots := list(hd(4, 1), hd(1, 1))
	stay := list(hd(1, 1), hd(2, 1), hd(4, 1), hd(5, 1))
	same(t, "Reach", h.Reach(roots, refs), stay)
	holds(t, h, 6, row(1, 6)...)
	same(t, "Collect", h.Collect(roots, refs), list(hd(3, 1), hd(6, 1)))
	holds(t, h, 6, stay...)
	same(t, "Collect again", h.Collect(roots, refs), nil)
	makes(t, h, api.KindChan, hd(3, 2))
	all := func(api.Handle) []api.Handle { panic(api.ErrArg) }
	same(t, "Reach", h.Reach(row(1, 1), all), row(1, 1))
}
