package heap

import (
	"slices"
	"testing"

	"drowse/api"
)

// P13.3: no roots, one, some and all of them.
func TestCollectRoots(t *testing.T) {
	for _, n := range []int{1, 2, 5, 500} {
		for _, roots := range [][]api.Handle{nil, {}, {{}}} {
			h := filled(t, n, n)
			collects(t, h, n, nil, roots, row(1, n)...)
			makes(t, h, api.KindChan, hd(1, 2))
		}
		h := filled(t, n, n)
		collects(t, h, n, nil, row(1, n))
		collects(t, h, n, nil, row(n, n), row(1, n-1)...)
	}
}

// P13.3: a ring goes as a whole, and stays as a whole; who leads into it is not led to by it.
func TestCollectRings(t *testing.T) {
	g := graph{
		hd(1, 1): list(hd(2, 1)), hd(2, 1): list(hd(3, 1)), hd(3, 1): list(hd(1, 1)),
		hd(4, 1): list(hd(1, 1)),
		hd(5, 1): list(hd(6, 1)), hd(6, 1): list(hd(5, 1), hd(7, 1)),
		hd(8, 1): list(hd(8, 1)),
	}
	h := filled(t, 8, 8)
	collects(t, h, 8, g, list(hd(3, 1), hd(6, 1)), hd(4, 1), hd(8, 1))
	collects(t, h, 8, g, list(hd(2, 1), hd(7, 1)), hd(5, 1), hd(6, 1))
	collects(t, h, 8, g, list(hd(7, 1)), row(1, 3)...)
	collects(t, h, 8, g, nil, hd(7, 1))
}

// P13.3: what is left has its kind, and its slot is not used again.
func TestCollectKeepsKinds(t *testing.T) {
	h := filled(t, 7, 7)
	collects(t, h, 7, nil, list(hd(2, 1), hd(5, 1), hd(6, 1)), hd(1, 1), hd(3, 1), hd(4, 1), hd(7, 1))
	for _, slot := range []uint32{1, 3, 4, 7} {
		makes(t, h, api.KindMutex, hd(slot, 2))
	}
	for _, slot := range []int{2, 5, 6} {
		lives(t, h, hd(uint32(slot), 1), kindOf(slot-1))
	}
	refuses(t, h, api.KindGroup, api.ErrHeapFull)
	collects(t, h, 7, nil, h.All())
}

// P13.4: with more roots no fewer objects stay, for all sets of roots of all graphs of three objects.
func TestMoreRoots(t *testing.T) {
	for edges := range 1 << 9 {
		g := graph{}
		for bit := range 9 {
			if edges>>bit&1 == 1 {
				from := hd(uint32(bit/3+1), 1)
				g[from] = append(g[from], hd(uint32(bit%3+1), 1))
			}
		}
		var stays [8][]api.Handle
		for set := range 8 {
			h := filled(t, 3, 3)
			h.Collect(rootsOf(set), g.tell)
			stays[set] = h.All()
			for less := range set {
				if less&set == less && !covers(stays[set], stays[less]) {
					t.Fatalf("of %v: with the roots %v there stay %v, with %v there stay %v", g, rootsOf(less), stays[less], rootsOf(set), stays[set])
				}
			}
			if !covers(stays[set], rootsOf(set)) {
				t.Fatalf("of %v: the roots %v do not all stay: %v", g, rootsOf(set), stays[set])
			}
		}
	}
}

// rootsOf is the slots that a set of bits names.
func rootsOf(set int) (roots []api.Handle) {
	for bit := range 3 {
		if set>>bit&1 == 1 {
			roots = append(roots, hd(uint32(bit+1), 1))
		}
	}
	return roots
}

// covers tells whether a list has all that another one has.
func covers(list, part []api.Handle) bool {
	for _, x := range part {
		if !slices.Contains(list, x) {
			return false
		}
	}
	return true
}

// P13.4: no handle is given twice, however often the heap is filled and emptied in part.
func TestNeverTwice(t *testing.T) {
	h := made(t, 20)
	given := map[api.Handle]bool{}
	for turn := range 200 {
		for {
			x, err := h.Make(kindOf(turn))
			if err != api.OK {
				break
			}
			if given[x] {
				t.Fatalf("%v is given twice", x)
			}
			given[x] = true
		}
		var roots []api.Handle
		for i, x := range h.All() {
			if (i*7+turn)%3 == 0 {
				roots = append(roots, x)
			}
		}
		h.Collect(roots, nil)
		same(t, "All", h.All(), roots)
	}
	living := 0
	for x := range given {
		if _, err := h.Kind(x); err == api.OK {
			living++
		}
	}
	if living != h.Count() {
		t.Errorf("%d of those that were given live, Count is %d", living, h.Count())
	}
}
