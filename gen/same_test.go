package gen_test

import (
	"reflect"
	"slices"
	"strconv"
	"testing"
	"unsafe"

	"drowse/api"
	"drowse/gen"
)

// spaced is a tree in memory of its own, in which behind each list there is room with something in it.
func spaced(n api.Node) api.Node {
	kids := make([]api.Node, 0, len(n.Kids)+2)
	for _, kid := range n.Kids {
		kids = append(kids, spaced(kid))
	}
	behind := kids[len(kids) : len(kids)+2]
	behind[0], behind[1] = api.Node{Kind: api.NodeReturn, Text: "behind", Line: -1}, api.Node{Kind: -9, Slot: 7}
	n.Kids = kids
	return n
}

// wholeLists tells whether all lists of a tree are as spaced made them, what lies behind them too.
func wholeLists(n api.Node) bool {
	behind := n.Kids[len(n.Kids) : len(n.Kids)+2]
	ok := reflect.DeepEqual(behind, []api.Node{{Kind: api.NodeReturn, Text: "behind", Line: -1}, {Kind: -9, Slot: 7}})
	return ok && !slices.ContainsFunc(n.Kids, func(kid api.Node) bool { return !wholeLists(kid) })
}

// sources is some that have all kinds of nodes.
func sources(t *testing.T) []api.Node {
	l := []api.Node{checked(t, rich), checked(t, "func main() { }")}
	r := source(77)
	for range 60 {
		l = append(l, grown(t, r, 10))
	}
	return l
}

// What is handed in stays as it is, and what lies behind its lists is neither read nor written.
func TestHandedIn(t *testing.T) {
	for _, file := range sources(t) {
		given := spaced(file)
		p, e := gen.Gen(given)
		if e != api.OK {
			t.Fatalf("%s: %d", textOf(file), e)
		}
		if !reflect.DeepEqual(changed(given, func(*api.Node) {}), changed(file, func(*api.Node) {})) || !wholeLists(given) {
			t.Fatalf("%s: what was handed in has changed", textOf(file))
		}
		if want, _ := gen.Gen(file); !reflect.DeepEqual(p, want) {
			t.Fatalf("%s: another program with memory behind the lists", textOf(file))
		}
	}
}

// spoil writes over all that a program has.
func spoil(p api.Program) {
	for i := range p.Funcs {
		f := &p.Funcs[i]
		for j := range f.Code[:cap(f.Code)] {
			f.Code[:cap(f.Code)][j] = api.Ins{Op: -1, A: -1, B: -1, Line: -1}
		}
		*f = api.Func{Name: "spoilt", Params: -1, Slots: -1}
	}
	for _, l := range p.Prints {
		for i := range l[:cap(l)] {
			l[:cap(l)][i] = api.Item{Kind: -1, Text: "spoilt"}
		}
	}
	for _, l := range p.Arms {
		for i := range l[:cap(l)] {
			l[:cap(l)][i] = !l[:cap(l)][i]
		}
	}
	clear(p.Prints)
	clear(p.Arms)
}

// Gen of one file is one program, each time, in new memory.
func TestTheSame(t *testing.T) {
	for _, file := range sources(t) {
		first, e1 := gen.Gen(file)
		second, e2 := gen.Gen(file)
		if e1 != api.OK || e2 != api.OK || !reflect.DeepEqual(first, second) {
			t.Fatalf("%s: two programs", textOf(file))
		}
		spoil(first)
		third, _ := gen.Gen(file)
		if !reflect.DeepEqual(second, third) {
			t.Fatalf("%s: two answers share memory", textOf(file))
		}
		wantOwnLists(t, second)
		wantOwnTexts(t, file, second)
	}
}

// span is the memory of a list or a text.
type span struct{ from, to uintptr }

func spanOf[T any](l []T) span {
	l = l[:cap(l)]
	from := uintptr(unsafe.Pointer(unsafe.SliceData(l)))
	return span{from, from + uintptr(len(l))*unsafe.Sizeof(*new(T))}
}

func textSpan(s string) span {
	from := uintptr(unsafe.Pointer(unsafe.StringData(s)))
	return span{from, from + uintptr(len(s))}
}

func meet(a, b span) bool { return a.from < b.to && b.from < a.to }

// wantOwnLists: no two lists of a program share memory.
func wantOwnLists(t *testing.T, p api.Program) {
	t.Helper()
	l := []span{spanOf(p.Funcs), spanOf(p.Prints), spanOf(p.Arms)}
	for _, f := range p.Funcs {
		l = append(l, spanOf(f.Code))
	}
	for _, x := range p.Prints {
		l = append(l, spanOf(x))
	}
	for _, x := range p.Arms {
		l = append(l, spanOf(x))
	}
	for i := range l {
		for j := range i {
			if meet(l[i], l[j]) {
				t.Fatal("two lists of an answer share memory")
			}
		}
	}
}

// wantOwnTexts: no name and no text of a program lies in the memory of the file's.
func wantOwnTexts(t *testing.T, file api.Node, p api.Program) {
	t.Helper()
	var l []span
	changed(file, func(n *api.Node) {
		if n.Kind == api.NodeFunc || n.Kind == api.NodeText {
			l = append(l, textSpan(n.Text))
		}
	})
	var own []string
	for _, f := range p.Funcs {
		own = append(own, f.Name)
	}
	for _, items := range p.Prints {
		for _, item := range items {
			own = append(own, item.Text)
		}
	}
	for _, s := range own {
		if s != "" && slices.ContainsFunc(l, func(x span) bool { return meet(x, textSpan(s)) }) {
			t.Fatalf("%q lies in the memory of what was handed in", s)
		}
	}
}

// Names of variables do not matter, nor do places.
func TestNames(t *testing.T) {
	for _, file := range sources(t) {
		want := made(t, file)
		names := map[string]string{"_": "_"}
		renamed := changed(file, func(n *api.Node) {
			n.At = 3*n.At + 1
			if n.Kind == api.NodeName || n.Kind == api.NodeVar || n.Kind == api.NodeParam {
				if names[n.Text] == "" {
					names[n.Text] = "other" + strconv.Itoa(len(names))
				}
				n.Text = names[n.Text]
			}
		})
		if p, e := gen.Gen(renamed); e != api.OK || !reflect.DeepEqual(p, want) {
			t.Fatalf("%s: with other names of variables: error %d", textOf(file), e)
		}
	}
	same := []string{
		"func f(a int, b bool) int { c := a; { a := b; println(a, c) }; return c }\nfunc main() { x := 1; println(f(x, true)) }",
		"func f(x int, y bool) int { z := x; { w := y; println(w, z) }; return z }\nfunc main() { f1 := 1; println(f(f1, true)) }",
		"func f(b int, a bool) int { c := b; { c0 := a; println(c0, c) }; return c }\nfunc main() { main1 := 1; println(f(main1, true)) }",
	}
	want := made(t, checked(t, same[0]))
	for _, src := range same[1:] {
		if p := made(t, checked(t, src)); !reflect.DeepEqual(p, want) {
			t.Errorf("%s: another program", src)
		}
	}
}
