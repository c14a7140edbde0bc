package code

import (
	"math"
	"testing"

	"drowse/api"
)

// chapterRow is a row of the chapter's table, of those whose effect hangs on the name alone.
type chapterRow struct {
	ops          []api.Op
	a            string
	takes, gives int
}

func chapterRows() []chapterRow {
	return []chapterRow{
		{[]api.Op{api.OpBeat, api.OpYield}, "0", 0, 0},
		{[]api.Op{api.OpInt}, "any", 0, 1},
		{[]api.Op{api.OpNil, api.OpMutex, api.OpGroup}, "0", 0, 1},
		{[]api.Op{api.OpLoad}, "slot", 0, 1},
		{[]api.Op{api.OpStore}, "slot", 1, 0},
		{[]api.Op{api.OpClear}, "slot", 0, 0},
		{[]api.Op{api.OpPop, api.OpClose, api.OpLock, api.OpUnlock, api.OpWait}, "0", 1, 0},
		{[]api.Op{api.OpAdd, api.OpSub, api.OpMul, api.OpDiv, api.OpRem, api.OpEq, api.OpNe, api.OpLt, api.OpLe, api.OpGt, api.OpGe}, "0", 2, 1},
		{[]api.Op{api.OpNeg, api.OpNot, api.OpChan, api.OpRecv, api.OpLen, api.OpCap}, "0", 1, 1},
		{[]api.Op{api.OpRecv2}, "0", 1, 2},
		{[]api.Op{api.OpSend, api.OpCount}, "0", 2, 0},
		{[]api.Op{api.OpJump}, "instruction", 0, 0},
		{[]api.Op{api.OpIf, api.OpUnless}, "instruction", 1, 0},
		{[]api.Op{api.OpRet}, "0", 0, 0},
		{[]api.Op{api.OpRetValue}, "0", 1, 0},
	}
}

func TestRowsNameEachInstructionOnce(t *testing.T) {
	seen := map[api.Op]int{api.OpCall: 1, api.OpGo: 1, api.OpSelect: 1, api.OpPrint: 1}
	for _, r := range chapterRows() {
		for _, op := range r.ops {
			seen[op]++
		}
	}
	for _, op := range allOps() {
		if seen[op] != 1 {
			t.Errorf("op %d stands in %d rows", op, seen[op])
		}
	}
	if len(seen) != 43 {
		t.Errorf("%d instructions, not 43", len(seen))
	}
}

// What else stands in an instruction does not matter to its effect, nor whether it may stand there.
func TestEffectOfNames(t *testing.T) {
	for _, p := range []api.Program{{}, one(), one(beat, ret), {Main: -7}} {
		for _, r := range chapterRows() {
			for _, op := range r.ops {
				for _, i := range []api.Ins{do(op), ins(op, 1), ins(op, -1), ins(op, math.MinInt64), ins(op, math.MaxInt64), {Op: op, B: -3, Line: -9}} {
					if takes, gives := Effect(p, i); takes != r.takes || gives != r.gives {
						t.Errorf("Effect of %v is %d, %d, not %d, %d", i, takes, gives, r.takes, r.gives)
					}
				}
			}
		}
	}
}

func wantEffect(t *testing.T, p api.Program, i api.Ins, takes, gives int) {
	t.Helper()
	if a, b := Effect(p, i); a != takes || b != gives {
		t.Errorf("Effect of %v is %d, %d, not %d, %d", i, a, b, takes, gives)
	}
}

func TestEffectOfCalls(t *testing.T) {
	var p api.Program
	params := []int{0, 1, 2, 8, 9, 1000, -1, math.MaxInt, math.MinInt}
	for _, n := range params {
		p.Funcs = append(p.Funcs, api.Func{Params: n}, api.Func{Params: n, Result: true})
	}
	for k, n := range params {
		a := int64(2 * k)
		wantEffect(t, p, ins(api.OpCall, a), n, 0)
		wantEffect(t, p, ins(api.OpCall, a+1), n, 1)
		wantEffect(t, p, ins(api.OpGo, a), n, 0)
		wantEffect(t, p, ins(api.OpGo, a+1), n, 0)
		wantEffect(t, p, api.Ins{Op: api.OpCall, A: a + 1, B: 5, Line: -1}, n, 1)
	}
}

func TestEffectOfSelects(t *testing.T) {
	p := api.Program{Arms: [][]bool{{}, {false}, {true}, {true, false}, {false, true, true}, make([]bool, 50), make([]bool, 51), nil}}
	for n := range p.Arms[5] {
		p.Arms[5][n] = true
	}
	for a, takes := range []int{0, 1, 2, 3, 5, 100, 51, 0} {
		for b := -1; b <= 2; b++ {
			wantEffect(t, p, api.Ins{Op: api.OpSelect, A: int64(a), B: b}, takes, 3)
		}
	}
}

func TestEffectOfPrints(t *testing.T) {
	text, number, truth := api.Item{Kind: api.ItemText, Text: "x"}, api.Item{Kind: api.ItemInt}, api.Item{Kind: api.ItemBool}
	p := api.Program{Prints: [][]api.Item{{}, {text}, {number}, {truth}, {text, number, truth}, {truth, text, truth, number}, {{Kind: 0}, {Kind: 4}, {Kind: -1}, {Kind: api.ItemInt, Text: "y"}}, nil, make([]api.Item, 30)}}
	for n := range p.Prints[8] {
		p.Prints[8][n] = truth
	}
	for a, takes := range []int{0, 0, 1, 1, 2, 3, 1, 0, 30} {
		wantEffect(t, p, ins(api.OpPrint, int64(a)), takes, 0)
	}
}

func TestEffectOfNothing(t *testing.T) {
	p := one(beat, ret)
	p.Funcs[0].Params = 3
	p.Funcs[0].Result = true
	p.Arms = [][]bool{{true, true}}
	p.Prints = [][]api.Item{{{Kind: api.ItemInt}}}
	for _, op := range []api.Op{api.OpNone, -1, api.OpPrint + 1, api.OpPrint + 2, 99, 255, 256, 257, math.MinInt, math.MaxInt} {
		wantEffect(t, p, do(op), 0, 0)
	}
	for _, op := range []api.Op{api.OpCall, api.OpGo, api.OpSelect, api.OpPrint} {
		for _, a := range []int64{-1, 1, 2, 1 << 32, math.MinInt64, math.MaxInt64} {
			wantEffect(t, p, ins(op, a), 0, 0)
			wantEffect(t, api.Program{}, ins(op, a), 0, 0)
		}
		wantEffect(t, api.Program{}, ins(op, 0), 0, 0)
	}
	// Each of them asks its own list.
	wantEffect(t, api.Program{Arms: p.Arms, Prints: p.Prints}, do(api.OpCall), 0, 0)
	wantEffect(t, api.Program{Arms: p.Arms, Prints: p.Prints}, do(api.OpGo), 0, 0)
	wantEffect(t, api.Program{Funcs: p.Funcs, Prints: p.Prints}, do(api.OpSelect), 0, 0)
	wantEffect(t, api.Program{Funcs: p.Funcs, Arms: p.Arms}, do(api.OpPrint), 0, 0)
}

// around is an instruction, ahead of it so many values, behind it so many that are taken off, and a return. A jump goes to the next one.
func around(ahead int, i api.Ins, behind int) api.Program {
	if i.Op == api.OpJump || i.Op == api.OpIf || i.Op == api.OpUnless {
		i.A = int64(ahead + 2)
	}
	return one(list(beat, times(ahead, ins(api.OpInt, 7)), i, times(behind, pop), ret)...)
}

// With what it takes an instruction is right, with one less it is not; and what it gives is there, and not more.
func TestEffectsHoldInCheck(t *testing.T) {
	for _, r := range chapterRows() {
		for _, op := range r.ops {
			if op == api.OpRet || op == api.OpRetValue {
				continue
			}
			wantRight(t, op, around(r.takes, do(op), r.gives))
			wantCheck(t, op, around(r.takes, do(op), r.gives+1), api.ErrCodeStack, 0, r.takes+2+r.gives)
			if r.takes > 0 {
				wantCheck(t, op, around(r.takes-1, do(op), 0), api.ErrCodeStack, 0, r.takes)
			}
		}
	}
}

func TestRetValueTakesOne(t *testing.T) {
	p := one(beat, ret)
	p.Funcs = append(p.Funcs, api.Func{Name: "f", Result: true, Code: list(beat, ins(api.OpInt, 1), do(api.OpRetValue))})
	wantRight(t, "one value", p)
	p.Funcs[1].Code = list(beat, ins(api.OpInt, 1), ins(api.OpInt, 1), do(api.OpRetValue))
	wantRight(t, "two values", p)
	p.Funcs[1].Code = list(beat, do(api.OpRetValue))
	wantCheck(t, "no value", p, api.ErrCodeStack, 1, 1)
}
