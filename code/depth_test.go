package code

import (
	"math"
	"slices"
	"testing"

	"drowse/api"
)

func wantDepths(t *testing.T, what any, p api.Program, f int, want ...int) {
	t.Helper()
	if l, err := Depths(p, f); err != api.OK || !slices.Equal(l, want) {
		t.Errorf("%v: Depths is %v, %d, not %v", what, l, err, want)
	}
}

var push = ins(api.OpInt, 1)

func TestDepths(t *testing.T) {
	wantDepths(t, "a line", one(beat, push, push, do(api.OpAdd), pop, ret), 0, 0, 0, 1, 2, 1, 0)
	wantDepths(t, "what is left", one(beat, push, push, ret), 0, 0, 0, 1, 2)
	wantDepths(t, "a turn", one(beat, push, beat, push, ins(api.OpIf, 2), pop, ret), 0, 0, 0, 1, 1, 2, 1, 0)
	wantDepths(t, "passed over", one(beat, push, ins(api.OpJump, 5), pop, pop, pop, ret), 0, 0, 0, 1, -1, -1, 1, 0)
	wantDepths(t, "two ways", one(beat, push, ins(api.OpIf, 5), push, ins(api.OpJump, 6), push, pop, ret), 0, 0, 0, 1, 0, 1, 0, 1, 0)
	wantDepths(t, "two ways, none there", one(beat, push, ins(api.OpUnless, 4), ret, ret), 0, 0, 0, 1, 0, 0)
	wantDepths(t, "alive again by a jump", one(beat, push, push, ins(api.OpIf, 5), ret, pop, ret), 0, 0, 0, 1, 2, 1, 1, 0)
	wantDepths(t, "receive with two", one(beat, do(api.OpNil), do(api.OpRecv2), pop, pop, ret), 0, 0, 0, 1, 2, 1, 0)
	wantDepths(t, "endless", one(beat, ins(api.OpJump, 0)), 0, 0, 0)
}

func TestDepthsOfEachFunction(t *testing.T) {
	p := api.Program{Main: 1, Prints: [][]api.Item{{{Kind: api.ItemText, Text: "a"}, {Kind: api.ItemBool}, {Kind: api.ItemInt}}}, Arms: [][]bool{{true, false}}}
	p.Funcs = []api.Func{
		{Name: "f", Params: 2, Slots: 2, Result: true, Code: list(beat, ins(api.OpLoad, 1), do(api.OpRetValue), do(api.OpRetValue))},
		{Name: "main", Code: list(beat, push, push, ins(api.OpCall, 0), push, ins(api.OpPrint, 0), push, push, ins(api.OpGo, 0), push, push, push, ins(api.OpSelect, 0), pop, pop, pop, ins(api.OpCall, 2), ret)},
		{Name: "g", Slots: 1, Code: list(beat, ins(api.OpClear, 0), ret)},
	}
	wantRight(t, "three functions", p)
	wantDepths(t, "f", p, 0, 0, 0, 1, -1)
	wantDepths(t, "main", p, 1, 0, 0, 1, 2, 1, 2, 0, 1, 2, 0, 1, 2, 3, 3, 2, 1, 0, 0)
	wantDepths(t, "g", p, 2, 0, 0, 0)
	for _, f := range []int{-1, 3, 4, math.MinInt, math.MaxInt, 1 << 32} {
		if l, err := Depths(p, f); len(l) != 0 || err != api.ErrArg {
			t.Error(f, l, err)
		}
	}
}

// The program's error is told ahead of a function's number that is none.
func TestDepthsErrors(t *testing.T) {
	for _, p := range []api.Program{{}, one(), one(ret), one(beat), one(beat, pop, ret), one(beat, ins(api.OpJump, 7)), {Funcs: one(beat, ret).Funcs, Main: 1}} {
		want, _, _ := Check(p)
		for _, f := range []int{0, -1, 1, 2} {
			if l, err := Depths(p, f); want == api.OK || err != want || len(l) != 0 {
				t.Error(f, l, err, want)
			}
		}
	}
}

// Who asks for one function hears of the faults of each.
func TestDepthsOfWrongNeighbours(t *testing.T) {
	p := funcs(3)
	p.Funcs[2].Code = list(beat, pop, ret)
	for f := range 3 {
		if l, err := Depths(p, f); err != api.ErrCodeStack || len(l) != 0 {
			t.Error(f, l, err)
		}
	}
}

func TestStacksEnd(t *testing.T) {
	wantRight(t, "1000", one(list(beat, times(1000, push), ret)...))
	wantRight(t, "1000, and one for one", one(list(beat, times(1000, push), do(api.OpNeg), do(api.OpAdd), push, ret)...))
	wantCheck(t, "1001", one(list(beat, times(1001, push), ret)...), api.ErrCodeStack, 0, 1001)
	wantCheck(t, "1001 of many more", one(list(beat, times(1500, push), ret)...), api.ErrCodeStack, 0, 1001)
	wantRight(t, "two for one, to 1000", one(list(beat, times(999, push), do(api.OpRecv2), ret)...))
	wantCheck(t, "two for one, to 1001", one(list(beat, times(1000, push), do(api.OpRecv2), ret)...), api.ErrCodeStack, 0, 1001)
	p := one(list(beat, times(997, push), ins(api.OpSelect, 0), ret)...)
	p.Arms = [][]bool{{}}
	wantRight(t, "three by a select", p)
	p.Funcs[0].Code = list(beat, times(998, push), ins(api.OpSelect, 0), ret)
	wantCheck(t, "three by a select, to 1001", p, api.ErrCodeStack, 0, 999)
	wantRight(t, "dead ones", one(list(beat, ret, times(1500, push))...))
	wantRight(t, "as the last one", one(list(beat, times(999, push), ins(api.OpJump, 1002), yield, push, ret)...))
	wantCheck(t, "behind a jump", one(list(beat, times(1000, push), ins(api.OpJump, 1003), yield, push, ret)...), api.ErrCodeStack, 0, 1003)
}

func TestCallsAtTheStack(t *testing.T) {
	for params := range 9 {
		for _, result := range []bool{false, true} {
			p := api.Program{Main: 1, Funcs: make([]api.Func, 2)}
			p.Funcs[0] = api.Func{Params: params, Slots: params, Result: result, Code: list(beat, ret)}
			gives := 0
			if result {
				p.Funcs[0].Code = list(beat, push, do(api.OpRetValue))
				gives = 1
			}
			for _, op := range []api.Op{api.OpCall, api.OpGo} {
				if op == api.OpGo {
					gives = 0
				}
				main := func(code ...any) api.Program {
					p.Funcs[1].Code = list(code...)
					return p
				}
				wantRight(t, params, main(beat, times(params, push), ins(op, 0), times(gives, pop), ret))
				wantCheck(t, params, main(beat, times(params, push), ins(op, 0), times(gives+1, pop), ret), api.ErrCodeStack, 1, params+gives+2)
				if params > 0 {
					wantCheck(t, params, main(beat, times(params-1, push), ins(op, 0), ret), api.ErrCodeStack, 1, params)
				}
			}
		}
	}
}

// A function may be called whose own turn comes later: what it takes is then whatever its Params are, and no number is too great to be reckoned with.
func TestCallsOfFunctionsThatAreNotRight(t *testing.T) {
	for _, op := range []api.Op{api.OpCall, api.OpGo} {
		for _, c := range []struct {
			params, depth int
			err           api.Errno
			f, at         int
		}{
			{9, 0, api.ErrCodeStack, 0, 1},
			{9, 9, api.ErrCodeMany, 1, -1},
			{9, 8, api.ErrCodeStack, 0, 9},
			{1000, 1000, api.ErrCodeMany, 1, -1},
			{1001, 1000, api.ErrCodeStack, 0, 1001},
			{math.MaxInt, 1000, api.ErrCodeStack, 0, 1001},
			{math.MaxInt, 0, api.ErrCodeStack, 0, 1},
			{-1, 0, api.ErrCodeMany, 1, -1},
			{-1000, 0, api.ErrCodeMany, 1, -1},
			{-1001, 0, api.ErrCodeStack, 0, 1},
			{-999, 1, api.ErrCodeMany, 1, -1},
			{-1000, 1, api.ErrCodeStack, 0, 2},
			{math.MinInt, 0, api.ErrCodeStack, 0, 1},
			{math.MinInt, 1000, api.ErrCodeStack, 0, 1001},
			{math.MinInt + 1, 5, api.ErrCodeStack, 0, 6},
		} {
			p := funcs(2)
			p.Funcs[1].Params, p.Funcs[1].Slots = c.params, 8
			p.Funcs[0].Code = list(beat, times(c.depth, push), ins(op, 1), ret)
			wantCheck(t, c, p, c.err, c.f, c.at)
		}
	}
	// With a result it is one more.
	p := funcs(2)
	p.Funcs[1] = api.Func{Params: -1000, Result: true, Code: list(beat, push, do(api.OpRetValue))}
	p.Funcs[0].Code = list(beat, ins(api.OpCall, 1), ret)
	wantCheck(t, "a result", p, api.ErrCodeStack, 0, 1)
	p.Funcs[1].Params = -999
	wantCheck(t, "a result", p, api.ErrCodeMany, 1, -1)
	p.Funcs[1].Params = -1000
	p.Funcs[0].Code = list(beat, ins(api.OpGo, 1), ret)
	wantCheck(t, "no result of a go", p, api.ErrCodeMany, 1, -1)
}

func TestNowhereToGoOn(t *testing.T) {
	for _, op := range allOps() {
		if op == api.OpJump || op == api.OpRet || op == api.OpRetValue {
			continue
		}
		p := dressed(ret, false, 3)
		p.Funcs[2].Code = list(beat, times(4, push), do(op))
		wantCheck(t, op, p, api.ErrCodeJump, 2, 5)
		p.Funcs[2].Code = list(beat, times(4, push), ret, do(op))
		wantRight(t, op, p)
	}
	wantCheck(t, "that it takes too much comes ahead", one(beat, pop), api.ErrCodeStack, 0, 1)
	wantCheck(t, "that there are too many does", one(list(beat, times(1001, push))...), api.ErrCodeStack, 0, 1001)
	wantCheck(t, "that the depths differ does not", one(beat, push, push, ins(api.OpIf, 0)), api.ErrCodeJump, 0, 3)
	wantCheck(t, "nor that the way back is dead", one(beat, push, ins(api.OpJump, 4), beat, ins(api.OpIf, 3)), api.ErrCodeJump, 0, 4)
	wantRight(t, "a jump is the last one", one(beat, ins(api.OpJump, 0)))
	wantRight(t, "a dead one is the last one", one(beat, ret, push))
}

func TestWaysThatMeet(t *testing.T) {
	wantRight(t, "at the same depth", one(beat, push, push, ins(api.OpIf, 5), yield, pop, ret))
	wantCheck(t, "by the next one at another", one(beat, push, push, ins(api.OpIf, 5), push, pop, ret), api.ErrCodeStack, 0, 4)
	wantCheck(t, "by a jump at another", one(beat, push, ins(api.OpIf, 5), push, ins(api.OpJump, 5), ret), api.ErrCodeStack, 0, 4)
	wantCheck(t, "by two branches at others", one(beat, push, push, ins(api.OpIf, 6), push, ins(api.OpUnless, 7), push, ret), api.ErrCodeStack, 0, 6)
	wantCheck(t, "back with one more", one(beat, push, ins(api.OpJump, 0)), api.ErrCodeStack, 0, 2)
	wantCheck(t, "back with one less", one(beat, push, beat, pop, ins(api.OpJump, 2)), api.ErrCodeStack, 0, 4)
	wantCheck(t, "back by a branch with one more", one(beat, push, push, ins(api.OpIf, 0), ret), api.ErrCodeStack, 0, 3)
	wantRight(t, "back by a branch", one(beat, push, ins(api.OpUnless, 0), ret))
	wantCheck(t, "a return's depth is its own", one(beat, push, push, ins(api.OpIf, 6), pop, ret, pop, pop, ret), api.ErrCodeStack, 0, 7)
}

func TestWayBackToTheDead(t *testing.T) {
	wantCheck(t, "by a jump", one(beat, ins(api.OpJump, 3), beat, ins(api.OpJump, 2)), api.ErrCodeStack, 0, 3)
	wantCheck(t, "by a branch", one(beat, ins(api.OpJump, 3), beat, push, ins(api.OpIf, 2), ret), api.ErrCodeStack, 0, 4)
	wantRight(t, "from the dead", one(beat, ret, beat, ins(api.OpJump, 2)))
	wantRight(t, "from the dead to the first one with another depth", one(beat, ret, push, ins(api.OpJump, 0)))
	wantRight(t, "from the dead to those to come", one(beat, ret, push, ins(api.OpJump, 4), pop, pop))
	wantDepths(t, "from the dead to those to come", one(beat, ret, push, ins(api.OpJump, 4), pop, pop), 0, 0, 0, -1, -1, -1, -1)
	wantDepths(t, "ahead of the living", one(beat, push, push, ins(api.OpJump, 5), ins(api.OpJump, 6), pop, pop, ret), 0, 0, 0, 1, 2, -1, 2, 1, 0)
}

// What a call answers is its owner's: what is done to it is not seen in another answer.
func TestDepthsAreNew(t *testing.T) {
	p := one(beat, push, ret)
	l, _ := Depths(p, 0)
	for n := range l[:cap(l)] {
		l[:cap(l)][n] = 77
	}
	wantDepths(t, "again", p, 0, 0, 0, 1)
	if q := one(beat, push, ret); !same(p, q) {
		t.Error("the program has been changed")
	}
}

// What lies behind a list's length is not there.
func TestBehindTheLengths(t *testing.T) {
	p := dressed(ret, false, 3)
	p.Funcs[2].Code = list(beat, ins(api.OpCall, 1), ins(api.OpPrint, 0), ins(api.OpSelect, 0), ret)
	p.Funcs = p.Funcs[:3]
	p.Prints, p.Arms = p.Prints[:1], p.Arms[:1]
	wantRight(t, "all there", p)
	for _, i := range []api.Ins{ins(api.OpCall, 3), ins(api.OpGo, 3), ins(api.OpPrint, 1), ins(api.OpSelect, 1)} {
		p.Funcs[2].Code = list(beat, i, ret)
		wantCheck(t, i, p, api.ErrCodeOp, 2, 1)
		wantEffect(t, p, i, 0, 0)
	}
	p.Funcs[2].Code = list(beat, ret)[:1]
	wantCheck(t, "the return", p, api.ErrCodeJump, 2, 0)
	p.Funcs[2].Code = list(beat, ins(api.OpJump, 2), ret)[:2]
	wantCheck(t, "the target", p, api.ErrCodeJump, 2, 1)
	p.Funcs[2].Code = list(beat, ret)
	p.Prints[0] = []api.Item{{Kind: api.ItemInt}, {Kind: 9, Text: "x"}}[:1]
	p.Arms[0] = make([]bool, 60)[:2]
	wantRight(t, "items and arms", p)
	wantEffect(t, p, ins(api.OpPrint, 0), 1, 0)
	wantEffect(t, p, ins(api.OpSelect, 0), 2, 3)
}
