package code

import (
	"reflect"
	"slices"
	"testing"

	"drowse/api"
)

// ins is an instruction on line 0.
func ins(op api.Op, a int64) api.Ins { return api.Ins{Op: op, A: a} }

// do is an instruction whose A is 0.
func do(op api.Op) api.Ins { return api.Ins{Op: op} }

// one is the chapter's F: a program of one function main with two slots.
func one(l ...api.Ins) api.Program {
	return api.Program{Funcs: []api.Func{{Name: "main", Slots: 2, Code: l}}}
}

var (
	beat  = do(api.OpBeat)
	yield = do(api.OpYield)
	ret   = do(api.OpRet)
	pop   = do(api.OpPop)
)

// allOps are the instructions of the table.
func allOps() []api.Op {
	var l []api.Op
	for op := api.OpBeat; op <= api.OpPrint; op++ {
		l = append(l, op)
	}
	return l
}

// wantCheck asks for an answer of Check, and that the other calls go by it.
func wantCheck(t *testing.T, what any, p api.Program, err api.Errno, f, at int) {
	t.Helper()
	was := copied(p)
	if e, g, n := Check(p); e != err || g != f || n != at {
		t.Errorf("%v: Check is %d, %d, %d, not %d, %d, %d", what, e, g, n, err, f, at)
		return
	}
	l, e := Depths(p, 0)
	if e != err || (err != api.OK && len(l) != 0) {
		t.Errorf("%v: Depths is %v, %d, where Check is %d", what, l, e, err)
	}
	s, e := Encode(p)
	if e != err || (err == api.OK) != (s != "") {
		t.Errorf("%v: Encode is %d bytes, %d, where Check is %d", what, len(s), e, err)
	}
	if !reflect.DeepEqual(p, was) {
		t.Errorf("%v: what was handed in has been changed", what)
	}
}

func wantRight(t *testing.T, what any, p api.Program) {
	t.Helper()
	wantCheck(t, what, p, api.OK, -1, -1)
}

// copied is the same program in other memory, a nil list staying nil.
func copied(p api.Program) api.Program {
	p.Funcs = slices.Clone(p.Funcs)
	for n := range p.Funcs {
		p.Funcs[n].Code = slices.Clone(p.Funcs[n].Code)
	}
	p.Prints = slices.Clone(p.Prints)
	for n := range p.Prints {
		p.Prints[n] = slices.Clone(p.Prints[n])
	}
	p.Arms = slices.Clone(p.Arms)
	for n := range p.Arms {
		p.Arms[n] = slices.Clone(p.Arms[n])
	}
	return p
}

// same tells whether two programs are the same; a list without elements may be nil or not.
func same(p, q api.Program) bool {
	return p.Main == q.Main &&
		slices.EqualFunc(p.Funcs, q.Funcs, func(f, g api.Func) bool {
			return f.Name == g.Name && f.Params == g.Params && f.Slots == g.Slots && f.Result == g.Result && slices.Equal(f.Code, g.Code)
		}) &&
		slices.EqualFunc(p.Prints, q.Prints, slices.Equal[[]api.Item]) &&
		slices.EqualFunc(p.Arms, q.Arms, slices.Equal[[]bool])
}

// times is an instruction so often.
func times(n int, i api.Ins) []api.Ins {
	l := make([]api.Ins, n)
	for k := range l {
		l[k] = i
	}
	return l
}

// list puts instructions and lists of them together.
func list(parts ...any) []api.Ins {
	var l []api.Ins
	for _, part := range parts {
		switch x := part.(type) {
		case api.Ins:
			l = append(l, x)
		case []api.Ins:
			l = append(l, x...)
		}
	}
	return l
}
