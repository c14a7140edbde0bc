package ring

import (
	"math"
	"runtime"
	"slices"
	"testing"
	"weak"

	"drowse/api"
)

// The rows of the chapter's section 'Examples'.
func TestRows(t *testing.T) {
	for _, size := range []int{-1, 101} {
		if r, err := New[int](size); r != nil || err != api.ErrArg {
			t.Errorf("New(%d): %v, %v", size, r, err)
		}
	}
	z := made[int](t, 0)
	if err := z.Put(1); err != api.ErrRingFull {
		t.Errorf("Put: %v", err)
	}
	if x, err := z.Take(); x != 0 || err != api.ErrRingEmpty {
		t.Errorf("Take: %v, %v", x, err)
	}
	if z.Len() != 0 || z.Cap() != 0 {
		t.Errorf("Len, Cap: %d, %d", z.Len(), z.Cap())
	}
	r := made[int](t, 2)
	put(t, r, 1, 2)
	if err := r.Put(3); err != api.ErrRingFull {
		t.Errorf("Put: %v", err)
	}
	take(t, r, 1)
	put(t, r, 4)
	if x, err := r.At(1); x != 4 || err != api.OK {
		t.Errorf("At(1): %v, %v", x, err)
	}
	refused(t, r, 2)
	same(t, "All", all(r), []int{2, 4})
}

// P12.1: which sizes there are not.
func TestNewRefused(t *testing.T) {
	for _, size := range []int{-1, -2, -100, math.MinInt32, math.MinInt, 101, 102, 1000, 1 << 32, math.MaxInt32, math.MaxInt} {
		if r, err := New[int](size); r != nil || err != api.ErrArg {
			t.Errorf("New[int](%d): %v, %v", size, r, err)
		}
		if r, err := New[[]string](size); r != nil || err != api.ErrArg {
			t.Errorf("New[[]string](%d): %v, %v", size, r, err)
		}
		if r, err := New[struct{}](size); r != nil || err != api.ErrArg {
			t.Errorf("New[struct{}](%d): %v, %v", size, r, err)
		}
	}
}

// P12.1: each size that there is, filled and emptied; Cap stays, Len counts.
func TestNew(t *testing.T) {
	for size := range api.MaxBuffer + 1 {
		r := made[int](t, size)
		var want []int
		holds(t, r, size)
		for i := range size {
			put(t, r, 10*i+7)
			want = append(want, 10*i+7)
			holds(t, r, size, want...)
		}
		if err := r.Put(-1); err != api.ErrRingFull {
			t.Fatalf("Put: %v", err)
		}
		for len(want) > 0 {
			take(t, r, want[0])
			want = want[1:]
			holds(t, r, size, want...)
		}
	}
}

// P12.1: two rings have nothing to do with each other.
func TestTwoRings(t *testing.T) {
	a, b := made[int](t, 2), made[int](t, 2)
	put(t, a, 1, 2)
	holds(t, b, 2)
	put(t, b, 3)
	take(t, a, 1)
	holds(t, a, 2, 2)
	holds(t, b, 2, 3)
}

// P12.1, P12.2: a ring without room is full and empty at once, for ever.
func TestNoRoom(t *testing.T) {
	r := made[string](t, 0)
	for range 5 {
		if err := r.Put("a"); err != api.ErrRingFull {
			t.Fatalf("Put: %v", err)
		}
		holds(t, r, 0)
	}
	for _, i := range []int{math.MinInt, -1, 0, 1, math.MaxInt} {
		refused(t, r, i)
	}
}

// P12.2: a ring with room for one.
func TestRoomForOne(t *testing.T) {
	r := made[int](t, 1)
	for i := range 300 {
		put(t, r, i)
		holds(t, r, 1, i)
		take(t, r, i)
		holds(t, r, 1)
	}
}

// P12.2: a Put that is refused puts nothing in the place of anything.
func TestFull(t *testing.T) {
	for by := range 7 {
		r := turned(t, 3, by)
		put(t, r, 1, 2, 3)
		for range 5 {
			if err := r.Put(9); err != api.ErrRingFull {
				t.Fatalf("Put: %v", err)
			}
			holds(t, r, 3, 1, 2, 3)
		}
		take(t, r, 1)
		put(t, r, 4)
		holds(t, r, 3, 2, 3, 4)
	}
}

// P12.2: a Take that is refused takes nothing of what comes later.
func TestEmpty(t *testing.T) {
	for by := range 7 {
		r := turned(t, 3, by)
		for range 5 {
			holds(t, r, 3) // asks for a Take, twice
		}
		put(t, r, 1, 2)
		take(t, r, 1, 2)
		holds(t, r, 3)
		put(t, r, 3)
		holds(t, r, 3, 3)
	}
}

// P12.2: At at all its places and beside them, however the things lie across the ring's end.
func TestAt(t *testing.T) {
	wrong := []int{math.MinInt, math.MinInt32, -101, -100, -4, -3, -2, -1, 100, 101, math.MaxInt32, math.MaxInt32 + 1, math.MaxInt - 1, math.MaxInt}
	for _, size := range []int{1, 2, 3, 5, 8} {
		for by := range 2*size + 1 {
			for count := range size + 1 {
				r := turned(t, size, by)
				var want []int
				for i := range count {
					want = append(want, 100*by+i)
				}
				put(t, r, want...)
				holds(t, r, size, want...)
				for i := count; i <= 2*size+1; i++ {
					refused(t, r, i)
				}
				for _, i := range wrong {
					refused(t, r, i)
				}
				holds(t, r, size, want...)
			}
		}
	}
}

// P12.2: what was taken, or lay in a place before, is told no more, though the things lie where it lay.
func TestOldThings(t *testing.T) {
	r := made[string](t, 3)
	put(t, r, "a", "b", "c")
	take(t, r, "a", "b")
	holds(t, r, 3, "c")
	put(t, r, "")
	holds(t, r, 3, "c", "")
	take(t, r, "c", "")
	holds(t, r, 3)
	put(t, r, "d")
	holds(t, r, 3, "d")
}

// P12.4: with n others ahead of it, a thing is told by the n + 1st Take behind its Put.
func TestAhead(t *testing.T) {
	const size = 6
	for by := range size {
		for n := range size {
			r := turned(t, size, by)
			for i := range n {
				put(t, r, i)
			}
			put(t, r, 77)
			for i := range n {
				take(t, r, i)
				put(t, r, 1000+i)
			}
			take(t, r, 77)
			for i := range n {
				take(t, r, 1000+i)
			}
			holds(t, r, size)
		}
	}
}

// P12.4: many turns round the ring's end, at each filling: what is taken comes in order, each once.
func TestManyTurns(t *testing.T) {
	for _, size := range []int{1, 2, 3, 7, 99, 100} {
		for _, held := range []int{0, min(1, size-1), size / 2, size - 1} {
			r, puts, takes := made[int](t, size), 0, 0
			for range held {
				put(t, r, puts)
				puts++
			}
			for range 20*size + 3 {
				put(t, r, puts)
				puts++
				if r.Len() != puts-takes {
					t.Fatalf("Len: %d, want %d", r.Len(), puts-takes)
				}
				take(t, r, takes)
				takes++
			}
			for takes < puts {
				take(t, r, takes)
				takes++
			}
			holds(t, r, size)
		}
	}
}

// P12.4: filled whole and emptied whole, again and again, from each place on.
func TestFillAndEmpty(t *testing.T) {
	for _, size := range []int{1, 4, 100} {
		r, next := made[int](t, size), 0
		for turn := range 30 {
			var want []int
			for range size {
				put(t, r, next)
				want = append(want, next)
				next++
			}
			holds(t, r, size, want...)
			take(t, r, want...)
			holds(t, r, size)
			for range turn % 3 {
				put(t, r, -1)
				take(t, r, -1)
			}
		}
	}
}

// P12.4: things that are alike are things of their own.
func TestAlike(t *testing.T) {
	r := made[int](t, 4)
	put(t, r, 5, 5, 0, 0)
	holds(t, r, 4, 5, 5, 0, 0)
	take(t, r, 5)
	put(t, r, 5)
	holds(t, r, 4, 5, 0, 0, 5)
	take(t, r, 5, 0, 0, 5)
	holds(t, r, 4)
}

// Errors: each call on a nil ring.
func TestNil(t *testing.T) {
	nilRing(t, 1)
	nilRing(t, "a")
	nilRing(t, api.Value{N: 4})
	nilRing(t, struct{}{})
}

// nilRing does each call on a nil ring, twice.
func nilRing[T comparable](t *testing.T, x T) {
	t.Helper()
	var r *Ring[T]
	var none T
	for range 2 {
		if err := r.Put(x); err != api.ErrArg {
			t.Errorf("Put: %v", err)
		}
		if got, err := r.Take(); got != none || err != api.ErrArg {
			t.Errorf("Take: %v, %v", got, err)
		}
		for _, i := range []int{math.MinInt, -1, 0, 1, 100, math.MaxInt} {
			refused(t, r, i)
		}
		if r.Len() != 0 || r.Cap() != 0 {
			t.Errorf("Len, Cap: %d, %d", r.Len(), r.Cap())
		}
		if r.All() == nil {
			t.Error("All is nil")
		}
		same(t, "All", all(r), nil)
	}
}

// Errors: their numbers.
func TestNumbers(t *testing.T) {
	if api.ErrArg != 1 || api.ErrRingFull != 121 || api.ErrRingEmpty != 122 {
		t.Error("numbers")
	}
}

// thing has a list in it.
type thing struct {
	name string
	list []int
}

// Types: things are kept and told as assignments copy them, lists within them are not copied.
func TestStructs(t *testing.T) {
	r := made[thing](t, 2)
	list := []int{1, 2, 3}
	x := thing{"a", list}
	put(t, r, x)
	x.name, x.list = "b", nil
	got, err := r.At(0)
	if err != api.OK || got.name != "a" || len(got.list) != 3 || &got.list[0] != &list[0] {
		t.Fatalf("At: %v, %v", got, err)
	}
	got.name = "c"
	got.list[1] = 20
	for x := range r.All() {
		if x.name != "a" || !slices.Equal(x.list, []int{1, 20, 3}) || &x.list[0] != &list[0] {
			t.Fatalf("All: %v", x)
		}
		x.name = "d"
	}
	if got, err := r.Take(); err != api.OK || got.name != "a" || got.list[1] != 20 || &got.list[0] != &list[0] {
		t.Fatalf("Take: %v, %v", got, err)
	}
	if got, err := r.Take(); err != api.ErrRingEmpty || got.name != "" || got.list != nil {
		t.Fatalf("Take: %v, %v", got, err)
	}
	if got, err := r.At(0); err != api.ErrArg || got.name != "" || got.list != nil {
		t.Fatalf("At: %v, %v", got, err)
	}
}

// Types: lists themselves, with what they share.
func TestSlices(t *testing.T) {
	r := made[[]int](t, 2)
	list := []int{1, 2, 3}
	put(t, r, nil, list[:2])
	if x, err := r.Take(); x != nil || err != api.OK {
		t.Fatalf("Take: %v, %v", x, err)
	}
	put(t, r, []int{})
	x, err := r.At(0)
	if err != api.OK || len(x) != 2 || cap(x) != 3 || &x[0] != &list[0] {
		t.Fatalf("At: %v, %v", x, err)
	}
	if x, err := r.At(1); x == nil || len(x) != 0 || err != api.OK {
		t.Fatalf("At: %v, %v", x, err)
	}
	if x, err := r.At(2); x != nil || err != api.ErrArg {
		t.Fatalf("At: %v, %v", x, err)
	}
	if !slices.Equal(list, []int{1, 2, 3}) {
		t.Fatalf("the list: %v", list)
	}
}

// Types: an array is a thing of its own wherever it is told.
func TestArrays(t *testing.T) {
	r := made[[3]int](t, 1)
	x := [3]int{1, 2, 3}
	put(t, r, x)
	x[0] = 9
	got, _ := r.At(0)
	got[1] = 9
	for y := range r.All() {
		y[2] = 9
	}
	take(t, r, [3]int{1, 2, 3})
}

// Types: things of several types, among them some that can't be compared and one without any size.
func TestTypes(t *testing.T) {
	texts := made[string](t, 2)
	put(t, texts, "", "x\x00y")
	holds(t, texts, 2, "", "x\x00y")

	nothing := made[struct{}](t, 2)
	put(t, nothing, struct{}{}, struct{}{})
	holds(t, nothing, 2, struct{}{}, struct{}{})
	take(t, nothing, struct{}{})
	holds(t, nothing, 2, struct{}{})

	values := made[api.Value](t, 2)
	put(t, values, api.Value{N: -4}, api.Value{H: api.Handle{Slot: 2, Gen: 3}})
	take(t, values, api.Value{N: -4})
	put(t, values, api.Value{N: math.MinInt64})
	holds(t, values, 2, api.Value{H: api.Handle{Slot: 2, Gen: 3}}, api.Value{N: math.MinInt64})

	things := made[any](t, 3)
	put(t, things, any(nil), any(5), any("a"))
	holds(t, things, 3, any(nil), any(5), any("a"))

	calls := made[func() int](t, 1)
	put(t, calls, func() int { return 6 })
	if f, err := calls.Take(); err != api.OK || f() != 6 {
		t.Error(err)
	}
	if f, err := calls.Take(); err != api.ErrRingEmpty || f != nil {
		t.Error(err)
	}

	rings := made[*Ring[int]](t, 1)
	inner := made[int](t, 1)
	put(t, rings, inner)
	put(t, inner, 9)
	if got, err := rings.At(0); err != api.OK || got != inner || got.Len() != 1 {
		t.Error(err)
	}

	floats := made[float64](t, 1)
	put(t, floats, math.NaN())
	if x, err := floats.Take(); err != api.OK || x == x {
		t.Error(x, err)
	}
}

// Rule 8 of the language: what was taken is not kept, though the ring is.
func TestLetGo(t *testing.T) {
	r := made[*[100]int](t, 3)
	taken, kept := new([100]int), new([100]int)
	weakTaken, weakKept := weak.Make(taken), weak.Make(kept)
	put(t, r, taken, kept)
	take(t, r, taken)
	taken, kept = nil, nil
	for range 3 {
		runtime.GC()
	}
	if weakTaken.Value() != nil {
		t.Error("what was taken is kept")
	}
	if weakKept.Value() == nil {
		t.Error("what is there is lost")
	}
	runtime.KeepAlive(r)
}
