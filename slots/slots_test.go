package slots

import (
	"math"
	"runtime"
	"slices"
	"testing"
	"weak"

	"drowse/api"
)

// The rows of the chapter's section 'Examples'.
func TestRows(t *testing.T) {
	for _, most := range []int{0, 501} {
		if s, err := New[int](most); s != nil || err != api.ErrArg {
			t.Errorf("New(%d): %v, %v", most, s, err)
		}
	}
	s := made[int](t, 2)
	take(t, s, 7, hd(1, 1))
	take(t, s, 8, hd(2, 1))
	full(t, s, 9)
	free(t, s, hd(1, 1))
	if err := s.Free(hd(1, 1)); err != api.ErrSlotsHandle {
		t.Errorf("Free twice: %v", err)
	}
	take(t, s, 5, hd(1, 2))
	gone(t, s, hd(1, 1), 3)
	lives(t, s, hd(1, 2), 5, 3)
	lives(t, s, hd(2, 1), 8, 2)
	counts(t, s, 2, 3)
	same(t, "All", all(s), []pair[int]{{hd(2, 1), 8}, {hd(1, 2), 5}})
}

// P10.1: which sizes there are.
func TestNew(t *testing.T) {
	for _, most := range []int{0, -1, -2, -500, math.MinInt, math.MinInt32, 501, 502, 1000, math.MaxInt32, math.MaxInt} {
		if s, err := New[int](most); s != nil || err != api.ErrArg {
			t.Errorf("New[int](%d): %v, %v", most, s, err)
		}
		if s, err := New[[]string](most); s != nil || err != api.ErrArg {
			t.Errorf("New[[]string](%d): %v, %v", most, s, err)
		}
	}
	for most := 1; most <= api.MaxGos; most++ {
		s := made[int](t, most)
		counts(t, s, 0, 0)
		same(t, "All of a new table", all(s), nil)
		for i := range most {
			take(t, s, 10*i, hd(uint32(i+1), 1))
			counts(t, s, i+1, i+1)
		}
		full(t, s, -1)
		counts(t, s, most, most)
	}
}

// P10.1: a new table has no handle that lives, whatever its slots' generations are.
func TestNewLives(t *testing.T) {
	s := made[int](t, 3)
	for slot := uint32(0); slot <= 5; slot++ {
		for gen := uint32(0); gen <= 2; gen++ {
			gone(t, s, hd(slot, gen), 1)
		}
	}
}

// P10.1: two tables have nothing to do with each other.
func TestTwoTables(t *testing.T) {
	a, b := made[int](t, 2), made[int](t, 2)
	take(t, a, 1, hd(1, 1))
	take(t, a, 2, hd(2, 1))
	free(t, a, hd(1, 1))
	counts(t, b, 0, 0)
	gone(t, b, hd(2, 1), 9)
	take(t, b, 3, hd(1, 1))
	lives(t, b, hd(1, 1), 3, 1)
	gone(t, a, hd(1, 1), 9)
}

// P10.2: the least slot that is empty, where several are.
func TestLeast(t *testing.T) {
	s := made[int](t, 6)
	for i := range 6 {
		take(t, s, i, hd(uint32(i+1), 1))
	}
	free(t, s, hd(5, 1))
	free(t, s, hd(2, 1))
	free(t, s, hd(4, 1))
	counts(t, s, 3, 6)
	take(t, s, 12, hd(2, 2))
	free(t, s, hd(1, 1))
	take(t, s, 11, hd(1, 2))
	take(t, s, 14, hd(4, 2))
	take(t, s, 15, hd(5, 2))
	full(t, s, 0)
	lives(t, s, hd(2, 2), 12, 7)
	lives(t, s, hd(1, 2), 11, 8)
	lives(t, s, hd(4, 2), 14, 9)
	lives(t, s, hd(5, 2), 15, 10)
	same(t, "All", all(s), []pair[int]{{hd(3, 1), 2}, {hd(6, 1), 5}, {hd(2, 2), 12}, {hd(1, 2), 11}, {hd(4, 2), 14}, {hd(5, 2), 15}})
}

// P10.2: a slot that was never used comes behind one that was emptied, and the other way round, by the number alone.
func TestLeastUnused(t *testing.T) {
	s := made[int](t, 4)
	take(t, s, 1, hd(1, 1))
	take(t, s, 2, hd(2, 1))
	free(t, s, hd(2, 1))
	take(t, s, 3, hd(2, 2))
	take(t, s, 4, hd(3, 1))
	free(t, s, hd(1, 1))
	free(t, s, hd(3, 1))
	take(t, s, 5, hd(1, 2))
	take(t, s, 6, hd(3, 2))
	take(t, s, 7, hd(4, 1))
	full(t, s, 8)
}

// P10.2, P10.5: the greatest table is full with 500, each slot of it can be filled again.
func TestGreatest(t *testing.T) {
	s := made[int](t, api.MaxGos)
	for i := range api.MaxGos {
		take(t, s, i, hd(uint32(i+1), 1))
	}
	full(t, s, 0)
	for i := range api.MaxGos {
		h := hd(uint32(i+1), 1)
		free(t, s, h)
		counts(t, s, api.MaxGos-1, api.MaxGos+i)
		take(t, s, -i, hd(uint32(i+1), 2))
		full(t, s, 0)
		gone(t, s, h, 1)
		lives(t, s, hd(uint32(i+1), 2), -i, api.MaxGos+i+1)
	}
	gone(t, s, hd(api.MaxGos+1, 1), 1)
	gone(t, s, hd(api.MaxGos+1, 2), 1)
}

// P10.2, P10.5: a slot that is emptied and filled many times has a new generation each time; none that it had comes back.
func TestManyTimes(t *testing.T) {
	const times = 70000 // more than 16 bits count
	s := made[int](t, 2)
	take(t, s, -1, hd(1, 1))
	for i := range times {
		h := hd(2, uint32(i+1))
		take(t, s, i, h)
		full(t, s, i)
		lives(t, s, h, i, i+2)
		if s.Lives(hd(2, uint32(i))) || s.Lives(hd(2, uint32(i+2))) {
			t.Fatalf("a handle beside %v lives", h)
		}
		free(t, s, h)
		if s.Lives(h) {
			t.Fatalf("%v lives", h)
		}
	}
	counts(t, s, 1, times+1)
	for gen := uint32(0); gen <= times+1; gen++ {
		if s.Lives(hd(2, gen)) {
			t.Fatalf("2.%d lives", gen)
		}
	}
	lives(t, s, hd(1, 1), -1, 1)
}

// P10.2: a Take that was refused is not counted: neither in the generation nor in Born.
func TestFullChangesNothing(t *testing.T) {
	s := made[string](t, 1)
	take(t, s, "a", hd(1, 1))
	for range 5 {
		full(t, s, "b")
		counts(t, s, 1, 1)
		lives(t, s, hd(1, 1), "a", 1)
	}
	free(t, s, hd(1, 1))
	counts(t, s, 0, 1)
	take(t, s, "c", hd(1, 2))
	lives(t, s, hd(1, 2), "c", 2)
}

// P10.3: the handles beside one that lives.
func TestWrongHandles(t *testing.T) {
	s := made[int](t, 3)
	take(t, s, 1, hd(1, 1))
	take(t, s, 2, hd(2, 1))
	for gen := uint32(1); gen < 5; gen++ {
		free(t, s, hd(2, gen))
		take(t, s, int(gen)+2, hd(2, gen+1))
	}
	wrong := []api.Handle{
		{},
		hd(0, 1), hd(0, 5), hd(0, math.MaxUint32),
		hd(1, 0), hd(1, 2), hd(1, math.MaxUint32),
		hd(2, 0), hd(2, 1), hd(2, 4), hd(2, 6), hd(2, 5+1<<31),
		hd(3, 0), hd(3, 1), hd(3, 2),
		hd(4, 0), hd(4, 1), hd(5, 1), hd(5, 2),
		hd(1<<31, 1), hd(1<<31+2, 5), hd(math.MaxUint32, 1), hd(math.MaxUint32, math.MaxUint32),
	}
	for _, h := range wrong {
		gone(t, s, h, 77)
	}
	lives(t, s, hd(1, 1), 1, 1)
	lives(t, s, hd(2, 5), 6, 6)
	counts(t, s, 2, 6)
}

// P10.3: Set leaves the handle, the serial and the place in All.
func TestSet(t *testing.T) {
	s := made[int](t, 3)
	take(t, s, 1, hd(1, 1))
	take(t, s, 2, hd(2, 1))
	take(t, s, 3, hd(3, 1))
	for i := range 4 {
		if err := s.Set(hd(1, 1), 100+i); err != api.OK {
			t.Fatal(err)
		}
		lives(t, s, hd(1, 1), 100+i, 1)
		counts(t, s, 3, 3)
	}
	same(t, "All", all(s), []pair[int]{{hd(1, 1), 103}, {hd(2, 1), 2}, {hd(3, 1), 3}})
	free(t, s, hd(1, 1))
	gone(t, s, hd(1, 1), 5)
	take(t, s, 4, hd(1, 2))
	lives(t, s, hd(1, 2), 4, 4)
}

// P10.3: Free takes one thing alone.
func TestFree(t *testing.T) {
	s := made[string](t, 4)
	for i, x := range []string{"a", "b", "c", "d"} {
		take(t, s, x, hd(uint32(i+1), 1))
	}
	free(t, s, hd(3, 1))
	counts(t, s, 3, 4)
	lives(t, s, hd(1, 1), "a", 1)
	lives(t, s, hd(2, 1), "b", 2)
	gone(t, s, hd(3, 1), "x")
	lives(t, s, hd(4, 1), "d", 4)
	for _, h := range []api.Handle{hd(1, 1), hd(2, 1), hd(4, 1)} {
		free(t, s, h)
	}
	counts(t, s, 0, 4)
	same(t, "All", all(s), nil)
	for slot := uint32(1); slot <= 4; slot++ {
		gone(t, s, hd(slot, 1), "x")
	}
}

// Errors: each call on a nil table, with all kinds of handles.
func TestNil(t *testing.T) {
	var s *Table[int]
	if h, err := s.Take(1); h != (api.Handle{}) || err != api.ErrArg {
		t.Errorf("Take: %v, %v", h, err)
	}
	for _, h := range []api.Handle{{}, hd(1, 1), hd(0, 1), hd(1, 0), hd(500, 3), hd(math.MaxUint32, math.MaxUint32)} {
		if err := s.Free(h); err != api.ErrArg {
			t.Errorf("Free(%v): %v", h, err)
		}
		if x, err := s.Get(h); x != 0 || err != api.ErrArg {
			t.Errorf("Get(%v): %v, %v", h, x, err)
		}
		if err := s.Set(h, 2); err != api.ErrArg {
			t.Errorf("Set(%v): %v", h, err)
		}
		if n, err := s.Serial(h); n != 0 || err != api.ErrArg {
			t.Errorf("Serial(%v): %d, %v", h, n, err)
		}
		if s.Lives(h) {
			t.Errorf("Lives(%v)", h)
		}
	}
	counts(t, s, 0, 0)
	if s.All() == nil {
		t.Error("All is nil")
	}
	for range 2 {
		same(t, "All", all(s), nil)
	}
}

// Errors: their numbers.
func TestNumbers(t *testing.T) {
	if api.ErrArg != 1 || api.ErrSlotsFull != 101 || api.ErrSlotsHandle != 102 {
		t.Error("numbers")
	}
}

// thing has a list in it.
type thing struct {
	name string
	list []int
}

// Types: things are kept and told as assignments copy them, lists within them are not copied.
func TestStructs(t *testing.T) {
	s := made[thing](t, 2)
	list := []int{1, 2, 3}
	x := thing{"a", list}
	take(t, s, x, hd(1, 1))
	x.name, x.list = "b", nil
	got, err := s.Get(hd(1, 1))
	if err != api.OK || got.name != "a" || len(got.list) != 3 || &got.list[0] != &list[0] {
		t.Fatalf("Get: %v, %v", got, err)
	}
	got.name = "c"
	got.list[1] = 20
	for _, x := range s.All() {
		if x.name != "a" || !slices.Equal(x.list, []int{1, 20, 3}) || &x.list[0] != &list[0] {
			t.Fatalf("All: %v", x)
		}
		x.name = "d"
	}
	again, err := s.Get(hd(1, 1))
	if err != api.OK || again.name != "a" || again.list[1] != 20 {
		t.Fatalf("Get: %v, %v", again, err)
	}
	if err := s.Set(hd(1, 1), thing{"e", list[:1]}); err != api.OK {
		t.Fatal(err)
	}
	if got, err := s.Get(hd(1, 1)); err != api.OK || got.name != "e" || len(got.list) != 1 || cap(got.list) != 3 {
		t.Fatalf("Get: %v, %v", got, err)
	}
	if got, err := s.Get(hd(1, 2)); err != api.ErrSlotsHandle || got.name != "" || got.list != nil {
		t.Fatalf("Get: %v, %v", got, err)
	}
}

// Types: things of several types, among them some that can't be compared and one without any size.
func TestTypes(t *testing.T) {
	texts := made[string](t, 2)
	take(t, texts, "", hd(1, 1))
	take(t, texts, "x\x00y", hd(2, 1))
	lives(t, texts, hd(1, 1), "", 1)
	lives(t, texts, hd(2, 1), "x\x00y", 2)

	nothing := made[struct{}](t, 2)
	take(t, nothing, struct{}{}, hd(1, 1))
	take(t, nothing, struct{}{}, hd(2, 1))
	full(t, nothing, struct{}{})
	free(t, nothing, hd(1, 1))
	gone(t, nothing, hd(1, 1), struct{}{})
	lives(t, nothing, hd(2, 1), struct{}{}, 2)

	arrays := made[[3]bool](t, 1)
	take(t, arrays, [3]bool{true, false, true}, hd(1, 1))
	lives(t, arrays, hd(1, 1), [3]bool{true, false, true}, 1)

	values := made[any](t, 3)
	take(t, values, any(nil), hd(1, 1))
	take(t, values, any(5), hd(2, 1))
	lives(t, values, hd(1, 1), any(nil), 1)
	lives(t, values, hd(2, 1), any(5), 2)
	gone(t, values, hd(3, 1), any("x"))

	calls := made[func() int](t, 1)
	take(t, calls, func() int { return 6 }, hd(1, 1))
	if f, err := calls.Get(hd(1, 1)); err != api.OK || f() != 6 {
		t.Error(err)
	}

	tables := made[*Table[int]](t, 1)
	inner := made[int](t, 1)
	take(t, tables, inner, hd(1, 1))
	take(t, inner, 9, hd(1, 1))
	if got, err := tables.Get(hd(1, 1)); err != api.OK || got != inner || got.Count() != 1 {
		t.Error(err)
	}

	floats := made[float64](t, 1)
	take(t, floats, math.NaN(), hd(1, 1))
	if x, err := floats.Get(hd(1, 1)); err != api.OK || x == x {
		t.Error(x, err)
	}
}

// Types: a zero thing is a thing like others: the slot is not empty.
func TestZeroThing(t *testing.T) {
	s := made[int](t, 2)
	take(t, s, 0, hd(1, 1))
	take(t, s, 0, hd(2, 1))
	full(t, s, 0)
	lives(t, s, hd(1, 1), 0, 1)
	counts(t, s, 2, 2)
	same(t, "All", all(s), []pair[int]{{hd(1, 1), 0}, {hd(2, 1), 0}})
}

// Rule 8 of the language: what was freed, or set aside by Set, is not kept, though the table is.
func TestLetGo(t *testing.T) {
	s := made[*[100]int](t, 2)
	freed, replaced, kept := new([100]int), new([100]int), new([100]int)
	weakFreed, weakReplaced, weakKept := weak.Make(freed), weak.Make(replaced), weak.Make(kept)
	take(t, s, freed, hd(1, 1))
	take(t, s, replaced, hd(2, 1))
	free(t, s, hd(1, 1))
	if err := s.Set(hd(2, 1), kept); err != api.OK {
		t.Fatal(err)
	}
	freed, replaced, kept = nil, nil, nil
	runtime.GC()
	if weakFreed.Value() != nil || weakReplaced.Value() != nil {
		t.Error("a thing that nobody can ask for is kept")
	}
	if got, err := s.Get(hd(2, 1)); err != api.OK || got != weakKept.Value() || got == nil {
		t.Error("the thing that was set is gone")
	}
}
