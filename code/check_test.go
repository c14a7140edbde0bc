package code

import (
	"math"
	"slices"
	"strings"
	"testing"

	"drowse/api"
)

// The rows of the chapter's examples.
func TestExamples(t *testing.T) {
	five, first := ins(api.OpInt, 5), ins(api.OpInt, 1)
	wantRight(t, 1, one(beat, ret))
	wantCheck(t, 2, one(ret), api.ErrCodeBeat, 0, 0)
	wantCheck(t, 3, one(beat), api.ErrCodeJump, 0, 0)
	wantCheck(t, 4, one(beat, pop, ret), api.ErrCodeStack, 0, 1)
	wantRight(t, 5, one(beat, five, ins(api.OpIf, 0), ret))
	wantCheck(t, 6, one(beat, five, ins(api.OpIf, 4), ret), api.ErrCodeJump, 0, 2)
	wantCheck(t, 7, one(beat, first, ins(api.OpIf, 1), ret), api.ErrCodeBeat, 0, 2)
	wantCheck(t, 8, one(beat, ins(api.OpLoad, 2), pop, ret), api.ErrCodeOp, 0, 1)
	wantRight(t, 9, one(beat, first, beat, ins(api.OpJump, 2), ret))
	wantCheck(t, 10, one(beat, first, ins(api.OpJump, 0)), api.ErrCodeStack, 0, 2)
	p := one(beat, first, ins(api.OpStore, 0), ret, pop)
	if l, err := Depths(p, 0); err != api.OK || !slices.Equal(l, []int{0, 0, 1, 0, -1}) {
		t.Error(l, err)
	}
	if l, err := Depths(p, 1); err != api.ErrArg || len(l) != 0 {
		t.Error(l, err)
	}
}

// funcs is a program of so many functions that do nothing.
func funcs(n int) api.Program {
	var p api.Program
	for range n {
		p.Funcs = append(p.Funcs, api.Func{Code: []api.Ins{beat, ret}})
	}
	return p
}

func TestCountOfFunctions(t *testing.T) {
	wantCheck(t, "nothing", api.Program{}, api.ErrCodeMany, -1, -1)
	wantCheck(t, "an empty list", api.Program{Funcs: []api.Func{}}, api.ErrCodeMany, -1, -1)
	wantCheck(t, "prints alone", api.Program{Prints: [][]api.Item{{}}, Arms: [][]bool{{}}}, api.ErrCodeMany, -1, -1)
	for _, n := range []int{1, 2, 99, 100} {
		wantRight(t, n, funcs(n))
	}
	for _, n := range []int{101, 102, 200} {
		wantCheck(t, n, funcs(n), api.ErrCodeMany, -1, -1)
	}
}

func TestCountOfItems(t *testing.T) {
	p := funcs(1)
	for _, kind := range []api.ItemKind{api.ItemText, api.ItemInt, api.ItemBool} {
		full := slices.Repeat([]api.Item{{Kind: kind}}, 20)
		over := slices.Repeat([]api.Item{{Kind: kind}}, 21)
		p.Prints = [][]api.Item{full, nil, full}
		wantRight(t, kind, p)
		p.Prints = [][]api.Item{over}
		wantCheck(t, kind, p, api.ErrCodeMany, -1, -1)
		p.Prints = [][]api.Item{full, nil, over}
		wantCheck(t, kind, p, api.ErrCodeMany, -1, -1)
	}
}

func TestCountOfArms(t *testing.T) {
	p := funcs(1)
	full, over := make([]bool, 50), make([]bool, 51)
	p.Arms = [][]bool{full, nil, full}
	wantRight(t, "50", p)
	p.Arms = [][]bool{over}
	wantCheck(t, "51", p, api.ErrCodeMany, -1, -1)
	p.Arms = [][]bool{full, nil, over}
	wantCheck(t, "51 as the last", p, api.ErrCodeMany, -1, -1)
}

func TestBytesOfTexts(t *testing.T) {
	p := funcs(1)
	text := func(n int) api.Item { return api.Item{Kind: api.ItemText, Text: strings.Repeat("\xff", n)} }
	for _, prints := range [][][]api.Item{{{text(20000)}}, {{text(0), text(10000)}, nil, {text(9999), text(1)}}} {
		p.Prints = prints
		wantRight(t, "20000 bytes", p)
	}
	for _, prints := range [][][]api.Item{{{text(20001)}}, {{text(1)}, {text(20000)}}, {{text(20000)}, {text(0), text(1)}}, {{text(10000), text(10000), text(1)}}} {
		p.Prints = prints
		wantCheck(t, "20001 bytes", p, api.ErrCodeMany, -1, -1)
	}
	// A Text counts, whatever its item is: that it has none to have is told later.
	p.Prints = [][]api.Item{{text(20000), {Kind: api.ItemInt, Text: "x"}}}
	wantCheck(t, "a number's text", p, api.ErrCodeMany, -1, -1)
	p.Prints = [][]api.Item{{text(19999), {Kind: api.ItemInt, Text: "x"}}}
	wantCheck(t, "a number's text", p, api.ErrCodeOp, -1, -1)
}

// What is very long is looked at here, by Check alone.
func TestGreatestLists(t *testing.T) {
	p := funcs(1)
	p.Prints = make([][]api.Item, api.MaxCode+1)
	wantLong(t, "too many prints", p, api.ErrCodeMany)
	p.Prints = p.Prints[:api.MaxCode]
	wantLong(t, "prints", p, api.OK)
	p = funcs(1)
	p.Arms = make([][]bool, api.MaxCode+1)
	wantLong(t, "too many arms", p, api.ErrCodeMany)
	p.Arms = p.Arms[:api.MaxCode]
	wantLong(t, "arms", p, api.OK)
}

func TestGreatestListsAsBytes(t *testing.T) {
	s := raw(funcs(1))
	head := s[:len(s)-8]
	count := func(n int) string {
		return string([]byte{byte(n >> 24), byte(n >> 16), byte(n >> 8), byte(n)}) + strings.Repeat("\x00", n)
	}
	p, err := Decode(head + count(api.MaxCode) + count(0))
	if err != api.OK || len(p.Prints) != api.MaxCode || len(p.Arms) != 0 {
		t.Error("prints", err)
	}
	p, err = Decode(head + count(0) + count(api.MaxCode))
	if err != api.OK || len(p.Arms) != api.MaxCode || len(p.Prints) != 0 {
		t.Error("arms", err)
	}
	wantNoProgram(t, "too many prints", head+count(api.MaxCode+1)+count(0))
	wantNoProgram(t, "too many arms", head+count(0)+count(api.MaxCode+1))
}

func wantLong(t *testing.T, what string, p api.Program, want api.Errno) {
	t.Helper()
	if err, f, at := Check(p); err != want || f != -1 || at != -1 {
		t.Errorf("%s: Check is %d, %d, %d, not %d", what, err, f, at, want)
	}
}

func TestGreatestCode(t *testing.T) {
	p := funcs(2)
	p.Funcs[1].Code = times(api.MaxCode+1, yield)
	p.Funcs[1].Code[0] = beat
	p.Funcs[1].Code[api.MaxCode] = ret
	if err, f, at := Check(p); err != api.ErrCodeMany || f != 1 || at != -1 {
		t.Error(err, f, at)
	}
	p.Funcs[1].Code = p.Funcs[1].Code[:api.MaxCode]
	if err, f, at := Check(p); err != api.ErrCodeJump || f != 1 || at != api.MaxCode-1 {
		t.Error(err, f, at)
	}
	p.Funcs[1].Code[api.MaxCode-1] = ret
	if err, f, at := Check(p); err != api.OK || f != -1 || at != -1 {
		t.Error(err, f, at)
	}
	s, err := Encode(p)
	if err != api.OK || len(s) != 12+2*(12+0)+14*2+14*api.MaxCode+8 {
		t.Error(len(s), err)
	}
	q, err := Decode(s)
	if err != api.OK || !same(p, q) {
		t.Error(err)
	}
}

func TestItemsKinds(t *testing.T) {
	p := funcs(1)
	good := []api.Item{{Kind: api.ItemText}, {Kind: api.ItemText, Text: "x"}, {Kind: api.ItemText, Text: "\x00\n\xff"}, {Kind: api.ItemInt}, {Kind: api.ItemBool}}
	bad := []api.Item{{}, {Kind: 4}, {Kind: -1}, {Kind: 257}, {Kind: math.MinInt}, {Text: "x"}, {Kind: 4, Text: "x"}, {Kind: api.ItemInt, Text: "x"}, {Kind: api.ItemBool, Text: "\x00"}}
	p.Prints = [][]api.Item{good, nil, good}
	wantRight(t, "good", p)
	for _, item := range bad {
		p.Prints = [][]api.Item{{item}}
		wantCheck(t, item, p, api.ErrCodeOp, -1, -1)
		p.Prints = [][]api.Item{good, append(slices.Clone(good), item)}
		wantCheck(t, item, p, api.ErrCodeOp, -1, -1)
	}
}

func TestMainsNumber(t *testing.T) {
	for _, n := range []int{1, 3, 100} {
		p := funcs(n)
		for _, main := range []int{0, n - 1, n / 2} {
			p.Main = main
			wantRight(t, main, p)
		}
		for _, main := range []int{-1, n, n + 1, math.MinInt, math.MaxInt, 1 << 32} {
			p.Main = main
			wantCheck(t, main, p, api.ErrCodeOp, -1, -1)
		}
	}
	p := funcs(3)
	p.Main = 1
	for _, params := range []int{1, 8, 9, -1, math.MinInt, math.MaxInt} {
		p.Funcs[1].Params, p.Funcs[1].Slots = params, 8
		wantCheck(t, params, p, api.ErrCodeOp, -1, -1)
	}
	p.Funcs[1] = api.Func{Result: true, Code: []api.Ins{beat, do(api.OpNil), do(api.OpRetValue)}}
	wantCheck(t, "a result", p, api.ErrCodeOp, -1, -1)
	p.Main = 2
	wantRight(t, "another one's result", p)
}

func TestSizesOfFunctions(t *testing.T) {
	set := func(name string, params, slots int) api.Program {
		p := funcs(3)
		p.Funcs[1].Name, p.Funcs[1].Params, p.Funcs[1].Slots = name, params, slots
		return p
	}
	long := strings.Repeat("n", 30)
	for _, name := range []string{"", "x", "_", "\x00\xff {", long} {
		wantRight(t, name, set(name, 0, 0))
	}
	wantCheck(t, "31 bytes", set(long+"n", 0, 0), api.ErrCodeMany, 1, -1)
	wantCheck(t, "16 letters of 2 bytes", set(strings.Repeat("ü", 16), 0, 0), api.ErrCodeMany, 1, -1)
	for params := range 9 {
		for _, slots := range []int{params, params + 1, 249, 250} {
			wantRight(t, slots, set("f", params, slots))
		}
		for _, slots := range []int{params - 1, -1, 251, 252, math.MaxInt, math.MinInt} {
			wantCheck(t, slots, set("f", params, slots), api.ErrCodeMany, 1, -1)
		}
	}
	for _, params := range []int{-1, 9, 10, 250, math.MinInt, math.MaxInt} {
		for _, slots := range []int{params, 0, 9, 250} {
			wantCheck(t, params, set("f", params, slots), api.ErrCodeMany, 1, -1)
		}
	}
	for _, code := range [][]api.Ins{nil, {}} {
		p := funcs(3)
		p.Funcs[2].Code = code
		wantCheck(t, "no instruction", p, api.ErrCodeMany, 2, -1)
	}
}

// dressed is a program whose function 2 has this instruction as the number 3, behind a return: so it is dead, and what it takes does not matter.
func dressed(i api.Ins, result bool, slots int) api.Program {
	p := funcs(4)
	last := ret
	if result {
		last = do(api.OpRetValue)
	}
	p.Funcs[2] = api.Func{Slots: slots, Result: result, Code: list(beat, ins(api.OpInt, 1), last, i)}
	p.Prints = [][]api.Item{{}, {{Kind: api.ItemInt}}}
	p.Arms = [][]bool{{}, {true}, {false, true}}
	return p
}

func TestOps(t *testing.T) {
	for _, op := range []api.Op{api.OpNone, -1, -2, api.OpPrint + 1, 45, 99, 255, 256, 257, math.MinInt, math.MaxInt} {
		for _, result := range []bool{false, true} {
			wantCheck(t, op, dressed(do(op), result, 3), api.ErrCodeOp, 2, 3)
		}
	}
	for _, op := range allOps() {
		for _, result := range []bool{false, true} {
			i := do(op)
			if op == api.OpRet && result || op == api.OpRetValue && !result {
				wantCheck(t, op, dressed(i, result, 3), api.ErrCodeOp, 2, 3)
				continue
			}
			wantRight(t, op, dressed(i, result, 3))
		}
	}
}

// mayBe are the numbers that an instruction's A may be in the program of dressed with so many slots, and some that it may not; nil, nil of a jump.
func mayBe(op api.Op, slots int64) (good, bad []int64) {
	far := []int64{-1, -2, math.MinInt64, math.MaxInt64, 1 << 32, 1<<32 + 1}
	upTo := func(n int64) (good, bad []int64) {
		for a := range n {
			good = append(good, a)
		}
		return good, append(far, n, n+1)
	}
	switch op {
	case api.OpInt:
		return append(far, 0, 1, 255, 256), nil
	case api.OpLoad, api.OpStore, api.OpClear:
		return upTo(slots)
	case api.OpJump, api.OpIf, api.OpUnless:
		return nil, nil
	case api.OpCall, api.OpGo:
		return upTo(4)
	case api.OpSelect:
		return upTo(3)
	case api.OpPrint:
		return upTo(2)
	}
	return []int64{0}, append(far, 1, 2, 3)
}

func TestA(t *testing.T) {
	for _, slots := range []int64{0, 1, 3, 250} {
		for _, op := range allOps() {
			good, bad := mayBe(op, slots)
			for _, a := range good {
				wantRight(t, ins(op, a), dressed(ins(op, a), op == api.OpRetValue, int(slots)))
			}
			for _, a := range bad {
				wantCheck(t, ins(op, a), dressed(ins(op, a), op == api.OpRetValue, int(slots)), api.ErrCodeOp, 2, 3)
			}
		}
	}
}

func TestB(t *testing.T) {
	for _, op := range allOps() {
		for _, b := range []int{-1, 0, 1, 2, 255, 256, 257, math.MinInt, math.MaxInt} {
			p := dressed(api.Ins{Op: op, B: b}, op == api.OpRetValue, 3)
			if b == 0 || b == 1 && op == api.OpSelect {
				wantRight(t, b, p)
			} else {
				wantCheck(t, b, p, api.ErrCodeOp, 2, 3)
			}
		}
	}
}

func TestLine(t *testing.T) {
	for _, op := range allOps() {
		for _, line := range []int{0, 1, 20000, api.MaxCount - 1, api.MaxCount} {
			wantRight(t, line, dressed(api.Ins{Op: op, Line: line}, op == api.OpRetValue, 3))
		}
		for _, line := range []int{-1, api.MaxCount + 1, 1 << 32, math.MinInt, math.MaxInt} {
			wantCheck(t, line, dressed(api.Ins{Op: op, Line: line}, op == api.OpRetValue, 3), api.ErrCodeOp, 2, 3)
		}
	}
}

// The first instruction that is not as it may be is told, wherever it stands.
func TestOpAtEachPlace(t *testing.T) {
	code := list(beat, times(5, yield), ret)
	for at := range code {
		for later := at; later < len(code); later++ {
			p := one(slices.Clone(code)...)
			p.Funcs[0].Code[later] = api.Ins{Op: api.OpYield, Line: -1}
			p.Funcs[0].Code[at] = ins(api.OpBeat, 1)
			wantCheck(t, at, p, api.ErrCodeOp, 0, at)
		}
	}
}

func TestFirstIsBeat(t *testing.T) {
	for _, op := range allOps() {
		if op == api.OpBeat {
			continue
		}
		p := dressed(ret, op == api.OpRetValue, 3)
		p.Funcs[2].Code = list(do(op), beat)
		wantCheck(t, op, p, api.ErrCodeBeat, 2, 0)
	}
}

func TestJumps(t *testing.T) {
	for _, op := range []api.Op{api.OpJump, api.OpIf, api.OpUnless} {
		at := func(n int, a int64) api.Program {
			code := list(beat, ins(api.OpInt, 1), yield, yield, pop, ins(api.OpInt, 1), ins(api.OpInt, 1), pop, pop, ret)
			code[n] = ins(op, a)
			return one(code...)
		}
		for _, n := range []int{2, 3} {
			for _, a := range []int64{-1, 10, 11, math.MinInt64, math.MaxInt64, 1 << 32} {
				wantCheck(t, a, at(n, a), api.ErrCodeJump, 0, n)
			}
			for a := int64(1); a <= int64(n); a++ {
				wantCheck(t, a, at(n, a), api.ErrCodeBeat, 0, n)
			}
		}
		// Also where nobody comes by.
		dead := func(a int64) api.Program { return one(beat, ret, ins(op, a), yield) }
		for a, err := range []api.Errno{api.OK, api.ErrCodeBeat, api.ErrCodeBeat, api.OK, api.ErrCodeJump} {
			if err == api.OK {
				wantRight(t, a, dead(int64(a)))
			} else {
				wantCheck(t, a, dead(int64(a)), err, 0, 2)
			}
		}
	}
	wantRight(t, "to the last one", one(beat, ins(api.OpJump, 3), yield, ret))
	wantRight(t, "to the next one", one(beat, ins(api.OpJump, 2), ret))
	wantRight(t, "back to the first one", one(beat, ins(api.OpJump, 0)))
	wantRight(t, "to the next one by both ways", one(beat, ins(api.OpInt, 1), ins(api.OpIf, 3), ret))
	wantRight(t, "back to a beat within", one(beat, yield, beat, yield, ins(api.OpJump, 2)))
	wantCheck(t, "the first of two", one(beat, ins(api.OpJump, 9), ins(api.OpJump, 1)), api.ErrCodeJump, 0, 1)
	wantCheck(t, "the first of two", one(beat, ins(api.OpJump, 1), ins(api.OpJump, 9)), api.ErrCodeBeat, 0, 1)
}
