package code

import (
	"math"
	"math/rand"
	"slices"
	"strings"
	"testing"

	"drowse/api"
)

// flaw is a fault that is put into a right program, and what Check tells of it; steps are where it comes in the order in which faults are told.
type flaw struct {
	put   func(p *api.Program)
	err   api.Errno
	f, at int
	steps [4]int // of the program; the function; of it; the instruction
}

// sound is a right program of three functions of 12 instructions, each of them with room for faults.
func sound() api.Program {
	p := api.Program{Main: 1, Prints: [][]api.Item{{{Kind: api.ItemText, Text: "x"}}, {{Kind: api.ItemInt}}}, Arms: [][]bool{{true}, {false}}}
	for n := range 3 {
		p.Funcs = append(p.Funcs, api.Func{Name: "f", Slots: 3, Code: list(beat, times(4, yield), beat, times(5, yield), ret)})
		if n != 1 {
			p.Funcs[n].Params = 2
		}
	}
	return p
}

func wholeFlaws() []flaw {
	many := func(put func(p *api.Program)) flaw { return flaw{put, api.ErrCodeMany, -1, -1, [4]int{1}} }
	op := func(put func(p *api.Program)) flaw { return flaw{put, api.ErrCodeOp, -1, -1, [4]int{2}} }
	return []flaw{
		many(func(p *api.Program) { p.Prints = append(p.Prints, make([]api.Item, 21)) }),
		many(func(p *api.Program) { p.Arms = append(p.Arms, make([]bool, 51)) }),
		many(func(p *api.Program) {
			p.Prints[0] = append(p.Prints[0], api.Item{Kind: api.ItemText, Text: strings.Repeat("x", 20000)})
		}),
		op(func(p *api.Program) { p.Prints[1] = append(p.Prints[1], api.Item{Kind: 4}) }),
		op(func(p *api.Program) { p.Prints[0] = append(p.Prints[0], api.Item{Kind: api.ItemBool, Text: "x"}) }),
		op(func(p *api.Program) { p.Main = -1 }),
		op(func(p *api.Program) { p.Main = 3 }),
		op(func(p *api.Program) { p.Main = 2 }),
		op(func(p *api.Program) { p.Funcs[1].Params = 9 }),
		op(func(p *api.Program) { p.Funcs[1].Result = true }),
	}
}

func functionFlaws(f int) []flaw {
	at := func(err api.Errno, step, n int, i api.Ins) flaw {
		return flaw{func(p *api.Program) { p.Funcs[f].Code[n] = i }, err, f, n, [4]int{3, f, step, n}}
	}
	many := func(put func(g *api.Func)) flaw {
		return flaw{func(p *api.Program) { put(&p.Funcs[f]) }, api.ErrCodeMany, f, -1, [4]int{3, f, 1}}
	}
	l := []flaw{
		many(func(g *api.Func) { g.Name = strings.Repeat("x", 31) }),
		many(func(g *api.Func) { g.Slots = 251 }),
		many(func(g *api.Func) { g.Slots = -1 }),
		at(api.ErrCodeBeat, 3, 0, yield),
		at(api.ErrCodeBeat, 3, 0, ins(api.OpClear, 0)),
		at(api.ErrCodeJump, 5, 11, yield),
	}
	if f != 1 {
		l = append(l,
			many(func(g *api.Func) { g.Params = 4 }),
			many(func(g *api.Func) { g.Params = math.MinInt }),
			flaw{func(p *api.Program) { p.Funcs[f].Result = true }, api.ErrCodeOp, f, 11, [4]int{3, f, 2, 11}})
	}
	for _, n := range []int{2, 3, 9} {
		for _, i := range []api.Ins{{}, {Op: 99}, {Op: api.OpYield, A: 1}, {Op: api.OpYield, B: 1}, {Op: api.OpYield, Line: -1}, {Op: api.OpJump, A: 99, B: 1}, {Op: api.OpLoad, A: 3}, {Op: api.OpCall, A: 3}, {Op: api.OpPrint, A: -1}, {Op: api.OpSelect, A: 9}} {
			l = append(l, at(api.ErrCodeOp, 2, n, i))
		}
		for _, i := range []api.Ins{ins(api.OpJump, 12), ins(api.OpIf, -1), ins(api.OpUnless, math.MaxInt64)} {
			l = append(l, at(api.ErrCodeJump, 4, n, i))
		}
		for _, i := range []api.Ins{ins(api.OpJump, 1), ins(api.OpIf, int64(n))} {
			l = append(l, at(api.ErrCodeBeat, 4, n, i))
		}
		for _, i := range []api.Ins{pop, do(api.OpAdd), ins(api.OpIf, 0), ins(api.OpSelect, 0), ins(api.OpPrint, 1)} {
			l = append(l, at(api.ErrCodeStack, 5, n, i))
		}
	}
	return l
}

func allFlaws() []flaw {
	return slices.Concat(wholeFlaws(), functionFlaws(0), functionFlaws(1), functionFlaws(2))
}

// clash tells whether two faults are put at the same place, where the later one would hide the one ahead.
func clash(a, b flaw) bool {
	if a.f >= 0 && a.f == b.f && a.at >= 0 && a.at == b.at {
		return true
	}
	return a.err == api.ErrCodeMany && b.err == api.ErrCodeMany && a.f == b.f
}

func earlier(a, b flaw) int { return slices.Compare(a.steps[:], b.steps[:]) }

func wantFirst(t *testing.T, put ...flaw) {
	t.Helper()
	p := sound()
	for _, x := range put {
		x.put(&p)
	}
	first := slices.MinFunc(put, earlier)
	if err, f, at := Check(p); err != first.err || f != first.f || at != first.at {
		t.Errorf("Check is %d, %d, %d, not %d, %d, %d, of %v", err, f, at, first.err, first.f, first.at, p)
	}
}

// Of two faults of a program the one is told that comes first in P8.1's order, whichever was put in first.
func TestFirstOfTwoFaults(t *testing.T) {
	wantRight(t, "without a fault", sound())
	all := allFlaws()
	for n, a := range all {
		wantFirst(t, a)
		for _, b := range all[:n] {
			if clash(a, b) {
				continue
			}
			wantFirst(t, a, b)
			wantFirst(t, b, a)
		}
	}
}

func TestFirstOfManyFaults(t *testing.T) {
	r := rand.New(rand.NewSource(8))
	all := allFlaws()
	for range 20000 {
		var put []flaw
		for range 2 + r.Intn(5) {
			x := all[r.Intn(len(all))]
			if !slices.ContainsFunc(put, func(y flaw) bool { return clash(x, y) }) {
				put = append(put, x)
			}
		}
		wantFirst(t, put...)
	}
}

// A count that is passed is told ahead of each other fault, though it stands in the last place.
func TestManyAheadOfOp(t *testing.T) {
	p := sound()
	p.Main = 7
	p.Prints[0][0].Kind = 9
	p.Arms = append(p.Arms, make([]bool, 51))
	wantCheck(t, "arms", p, api.ErrCodeMany, -1, -1)
	p.Arms = p.Arms[:2]
	wantCheck(t, "no arms", p, api.ErrCodeOp, -1, -1)
	p.Prints = append(p.Prints, make([]api.Item, 21))
	wantCheck(t, "items", p, api.ErrCodeMany, -1, -1)
	p = funcs(101)
	p.Main = -1
	p.Funcs[0].Code = nil
	wantCheck(t, "functions", p, api.ErrCodeMany, -1, -1)
}
