package code

import (
	"math/rand"
	"slices"
	"testing"

	"drowse/api"
)

// grower puts right code together: pieces that leave the stack as it was, within one another.
type grower struct {
	r    *rand.Rand
	p    api.Program
	f    api.Func
	code []api.Ins
}

func (g *grower) add(l ...api.Ins) { g.code = append(g.code, l...) }

// value puts one value there.
func (g *grower) value(deep int) {
	if deep == 0 {
		g.add([]api.Ins{ins(api.OpInt, int64(g.r.Intn(9)-4)), do(api.OpNil), do(api.OpMutex), do(api.OpGroup)}[g.r.Intn(4)])
		return
	}
	switch g.r.Intn(4) {
	case 0:
		g.value(deep - 1)
		g.add(do([]api.Op{api.OpNeg, api.OpNot, api.OpChan, api.OpRecv, api.OpLen, api.OpCap}[g.r.Intn(6)]))
	case 1:
		g.value(deep - 1)
		g.value(deep - 1)
		g.add(do(api.OpAdd + api.Op(g.r.Intn(5))))
	case 2:
		g.value(deep - 1)
		g.add(do(api.OpRecv2), pop)
	case 3:
		g.named(deep, api.OpCall)
	}
}

// named is an instruction of what the program has, with what it takes; a value is left.
func (g *grower) named(deep int, op api.Op) {
	i := ins(op, int64(g.r.Intn(len(g.p.Funcs))))
	takes, gives := modelEffect(g.p, i)
	for range takes {
		g.value(deep - 1)
	}
	g.add(i)
	if gives == 0 {
		g.value(0)
	}
}

// piece leaves the stack as it was, or leaves the function.
func (g *grower) piece(deep int) {
	if deep == 0 {
		g.add([]api.Ins{yield, beat}[g.r.Intn(2)])
		return
	}
	switch g.r.Intn(8) {
	case 0:
		g.value(deep)
		g.add(pop)
	case 1: // a turn
		from := int64(len(g.code))
		g.add(beat)
		g.piece(deep - 1)
		g.value(deep - 1)
		g.add(ins([]api.Op{api.OpIf, api.OpUnless}[g.r.Intn(2)], from))
	case 2: // two branches
		g.value(deep - 1)
		fork := len(g.code)
		g.add(do(api.OpUnless))
		g.piece(deep - 1)
		over := len(g.code)
		g.add(do(api.OpJump))
		g.code[fork].A = int64(len(g.code))
		g.piece(deep - 1)
		g.code[over].A = int64(len(g.code))
		g.add(yield)
	case 3: // what is dead, and whatever stands there
		over := len(g.code)
		g.add(do(api.OpJump), pop, pop)
		g.code[over].A = int64(len(g.code))
		g.add(yield)
	case 4: // values lie there meanwhile
		g.value(deep - 1)
		g.piece(deep - 1)
		g.add(pop)
	case 5:
		g.piece(deep - 1)
		g.piece(deep - 1)
	case 6: // the way out, for some
		g.value(deep - 1)
		fork := len(g.code)
		g.add(do(api.OpIf))
		g.out()
		g.code[fork].A = int64(len(g.code))
		g.add(yield)
	case 7:
		i := api.Ins{Op: []api.Op{api.OpPrint, api.OpSelect, api.OpGo}[g.r.Intn(3)]}
		takes, gives := modelEffect(g.p, i)
		for range takes {
			g.value(deep - 1)
		}
		g.add(i)
		g.add(times(gives, pop)...)
	}
}

// out leaves the function.
func (g *grower) out() {
	if g.f.Result {
		g.value(0)
		g.add(do(api.OpRetValue))
	} else {
		g.add(ret)
	}
}

// grown is a right program.
func grown(r *rand.Rand) api.Program {
	p := api.Program{Prints: [][]api.Item{{{Kind: api.ItemText, Text: "x"}, {Kind: api.ItemInt}}}, Arms: [][]bool{{true, false}}}
	p.Funcs = []api.Func{{Name: "a", Params: 2, Slots: 3, Result: true}, {Name: "main"}, {Name: "b", Params: 1, Slots: 1}}
	p.Main = 1
	for n, f := range p.Funcs {
		g := grower{r: r, p: p, f: f, code: []api.Ins{beat}}
		g.piece(1 + r.Intn(4))
		g.out()
		p.Funcs[n].Code = g.code
	}
	return p
}

// state is an instruction that is come to, and how many values lie there then.
type state struct{ at, depth int }

// reached are all states that can be come to from a function's instruction 0 on.
func reached(t *testing.T, p api.Program, f int) map[state]bool {
	t.Helper()
	code := p.Funcs[f].Code
	seen := map[state]bool{}
	work := []state{{0, 0}}
	for len(work) > 0 {
		s := work[len(work)-1]
		work = work[:len(work)-1]
		if seen[s] {
			continue
		}
		seen[s] = true
		takes, gives := Effect(p, code[s.at])
		if s.depth < takes || s.depth-takes+gives > api.MaxStack {
			t.Fatalf("%v cannot be done, of %v", s, p)
		}
		for _, to := range modelNext(code[s.at], s.at) {
			if to < 0 || to >= len(code) {
				t.Fatalf("%v leaves the function, of %v", s, p)
			}
			work = append(work, state{to, s.depth - takes + gives})
		}
	}
	return seen
}

// wantWalks asks that what can be come to has the depth that is told, that nothing else has one, and that beats are come to.
func wantWalks(t *testing.T, p api.Program) {
	t.Helper()
	for f := range p.Funcs {
		l, err := Depths(p, f)
		if err != api.OK {
			t.Fatalf("Depths is %d, of %v", err, p)
		}
		seen := reached(t, p, f)
		for s := range seen {
			if l[s.at] != s.depth {
				t.Errorf("%v is come to, where Depths is %v, of %v", s, l, p)
			}
		}
		if live := len(l) - len(slices.DeleteFunc(slices.Clone(l), func(n int) bool { return n >= 0 })); live != len(seen) {
			t.Errorf("%d are come to, %d have a depth, of %v", len(seen), live, p)
		}
		wantBeats(t, p.Funcs[f].Code)
	}
}

// wantBeats goes from each instruction on, as many as there are, by all ways that pass by no beat: none may be left then.
func wantBeats(t *testing.T, code []api.Ins) {
	t.Helper()
	at := map[int]bool{}
	for n := range code {
		at[n] = true
	}
	for range code {
		next := map[int]bool{}
		for n := range at {
			if n >= len(code) || code[n].Op == api.OpBeat {
				continue
			}
			for _, to := range modelNext(code[n], n) {
				next[to] = true
			}
		}
		at = next
	}
	for n := range at {
		t.Errorf("%d is come to after %d instructions without a beat, of %v", n, len(code), code)
	}
}

func TestWalks(t *testing.T) {
	r := rand.New(rand.NewSource(85))
	turns, dead := 0, 0
	for range 4000 {
		p := grown(r)
		wantRight(t, "grown", p)
		wantBytes(t, "grown", p)
		wantWalks(t, p)
		for f, g := range p.Funcs {
			for at, i := range g.Code {
				if i.Op == api.OpIf && i.A <= int64(at) {
					turns++
				}
			}
			l, _ := Depths(p, f)
			if slices.Contains(l, -1) {
				dead++
			}
		}
	}
	if turns < 500 || dead < 500 {
		t.Errorf("only %d turns, %d with what is dead", turns, dead)
	}
}

// Also of whatever else Check lets pass.
func TestWalksOfWhatIsRight(t *testing.T) {
	r := rand.New(rand.NewSource(86))
	right := 0
	for range 30000 {
		p := anyProgram(r)
		if err, _, _ := Check(p); err == api.OK {
			right++
			wantWalks(t, p)
		}
		p = bent(r, grown(r))
		if err, _, _ := Check(p); err == api.OK {
			right++
			wantWalks(t, p)
		}
	}
	if right < 1500 {
		t.Errorf("only %d of these are right", right)
	}
	wantWalks(t, rich())
	wantWalks(t, sound())
}

// The same is answered again, whatever has been asked in between.
func TestAnswersHangOnNothingElse(t *testing.T) {
	r := rand.New(rand.NewSource(87))
	for range 500 {
		p, q := anyProgram(r), anyProgram(r)
		first := told{}
		first.err, first.f, first.at = Check(p)
		s, _ := Encode(p)
		l, _ := Depths(p, 0)
		Check(q)
		Encode(q)
		Decode(s[:len(s)/2])
		Depths(q, 0)
		again := told{}
		again.err, again.f, again.at = Check(p)
		s2, _ := Encode(p)
		l2, _ := Depths(p, 0)
		if first != again || s != s2 || !slices.Equal(l, l2) {
			t.Errorf("%v, then %v, of %v", first, again, p)
		}
	}
}
