package gen_test

import (
	"math"
	"reflect"
	"testing"

	"drowse/api"
	"drowse/check"
	"drowse/gen"
	"drowse/parse"
	"drowse/tree"
)

// wantRefused: a file is answered with ErrGenTree and nothing else.
func wantRefused(t *testing.T, what string, file api.Node) {
	t.Helper()
	p, e := gen.Gen(file)
	if e != api.ErrGenTree || !reflect.DeepEqual(p, api.Program{}) {
		t.Errorf("%s: error %d, %d functions", what, e, len(p.Funcs))
	}
}

// rich is a source with nodes of all kinds, among them all forms of each that have other parts.
const rich = `
func f(c chan int, n int) int {
	for i := 0; i < n; i++ {
		select {
		case c <- i:
			println("sent", i, true)
		case v, ok := <-c:
			println(v, ok)
		case _, _ = <-c:
		case <-c:
			continue
		default:
			break
		}
	}
	for ;; {
		break
	}
	return n
}

func main() {
	m := make(Mutex)
	var g WaitGroup = make(WaitGroup)
	var d chan int
	m.Lock()
	g.Add(2 + 3)
	go f(nil, 3)
	for x := range make(chan int, 1) {
		switch x {
		case 1, 2:
			continue
		}
	}
	for range d {
		{
		}
	}
	switch {
	default:
		d <- -f(d, 1)
	case d == nil && !false:
		x, _ := <-d
		_ = x
		x++
		yield()
	}
	for true {
		if len(d) > 0 {
			close(d)
		} else {
			return
		}
	}
}
`

func TestUnchecked(t *testing.T) {
	parsed, err := parse.Parse(rich)
	if err != nil {
		t.Fatal(err)
	}
	wantRefused(t, "what check has not seen", parsed)
	file := told(t, parsed)
	made(t, file)
	wantRefused(t, "what check has seen, without its marks", tree.Bare(file))
	for _, src := range []string{"func main() { x := 1; println(x) }", "func main() { println(1) }", "func f() { main() }\nfunc main() { f() }", "func f(x int) { }\nfunc main() { }"} {
		parsed, err := parse.Parse(src)
		if err != nil {
			t.Fatal(err)
		}
		wantRefused(t, src, parsed)
		made(t, told(t, parsed))
	}
	// Where check has nothing to lay down, what it has not seen is what it tells.
	parsed, _ = parse.Parse("func main() { for { } }")
	if p, e := gen.Gen(parsed); e != api.OK || len(p.Funcs) != 1 {
		t.Errorf("a file without marks: error %d", e)
	}
}

func TestRefusedByCheck(t *testing.T) {
	for _, src := range []string{
		"",
		"func f() { }",
		"func main() { }\nfunc main() { }",
		"func main(x int) { }",
		"func main() int { return 1 }",
		"func main() { x := 1 }",
		"func main() { x = 1 }",
		"func main() { println(y) }",
		"func main() { f() }",
		"func main() { break }",
		"func main() { continue }",
		"func main() { return 1 }",
		"func main() { if 1 { } }",
		"func main() { var x int = true; println(x) }",
		"func main() { 1 <- 2 }",
		"func main() { println(nil) }",
		"func f() int { }\nfunc main() { }",
		"func main() { main(1) }",
	} {
		parsed, err := parse.Parse(src)
		if err != nil {
			t.Fatalf("%s: %v", src, err)
		}
		if _, err := check.Check(parsed); err == nil {
			t.Fatalf("%s: check accepts it", src)
		}
		wantRefused(t, src, parsed)
	}
}

func TestNoFile(t *testing.T) {
	file := checked(t, rich)
	wantRefused(t, "nothing", api.Node{})
	for k := api.NodeKind(-1); k <= api.NodeMethod+1; k++ {
		if k != api.NodeFile {
			wantRefused(t, "a root of another kind", api.Node{Kind: k, Kids: file.Kids})
		}
		wantRefused(t, "a file with another kid", api.Node{Kind: api.NodeFile, Kids: append([]api.Node{{Kind: k}}, file.Kids...)})
	}
	wantRefused(t, "a function", file.Kids[0])
	wantRefused(t, "a file in a file", api.Node{Kind: api.NodeFile, Kids: []api.Node{file}})
	wantRefused(t, "a file without functions", api.Node{Kind: api.NodeFile})
	wantRefused(t, "a function without a Block", api.Node{Kind: api.NodeFile, Kids: []api.Node{{Kind: api.NodeFunc, Text: "main"}}})
}

// nodesOf is the places of all nodes of a tree.
func nodesOf(n *api.Node) []*api.Node {
	l := []*api.Node{n}
	for i := range n.Kids {
		l = append(l, nodesOf(&n.Kids[i])...)
	}
	return l
}

// Another mark, or another line than there may be, at whatever node.
func TestOneFieldOff(t *testing.T) {
	file := changed(checked(t, rich), func(*api.Node) {})
	want := made(t, file)
	for _, n := range nodesOf(&file) {
		was := *n
		for _, do := range []func(){
			func() { n.Type += "x" },
			func() { n.Type = "int"; n.Slot-- },
			func() { n.Slot++ },
			func() { n.Slot-- },
			func() { n.Slot = math.MinInt },
			func() { n.Slot = math.MaxInt },
			func() { n.Line = -1 },
			func() { n.Line = math.MinInt },
			func() { n.Line = api.MaxCount + 1 },
			func() { n.Line = math.MaxInt },
			func() { n.Kind = -1 },
			func() { n.N = -7 },
			func() { n.Kids = append(n.Kids[:len(n.Kids):len(n.Kids)], api.Node{Kind: api.NodeFile}) },
		} {
			do()
			wantRefused(t, "another mark, line or form", file)
			*n = was
		}
		for _, do := range []func(){
			func() { n.Line = 0 },
			func() { n.Line = api.MaxCount },
			func() { n.At = -5 },
			func() { n.At = math.MaxInt },
		} {
			do()
			p, e := gen.Gen(file)
			if e != api.OK || !sameButLines(p, want) {
				t.Errorf("with a line or a place that may be: error %d", e)
			}
			*n = was
		}
	}
}

func sameButLines(a, b api.Program) bool {
	return reflect.DeepEqual(withoutLines(a), withoutLines(b))
}

// withoutLines is a program in new memory, all instructions of which are on line 0.
func withoutLines(p api.Program) api.Program {
	p.Funcs = append([]api.Func(nil), p.Funcs...)
	for i := range p.Funcs {
		p.Funcs[i].Code = append([]api.Ins(nil), p.Funcs[i].Code...)
		for j := range p.Funcs[i].Code {
			p.Funcs[i].Code[j].Line = 0
		}
	}
	return p
}

// fits is whether a tree is one that E1 lets through, looked at plainly.
func fits(file api.Node) bool {
	nodes, texts := 0, 0
	right := true
	changed(file, func(n *api.Node) {
		nodes++
		if n.Kind == api.NodeText {
			texts += len(n.Text)
		}
		right = right && n.Line >= 0 && n.Line <= api.MaxCount
	})
	told, err := check.Check(file)
	same := err == nil && reflect.DeepEqual(changed(told, func(*api.Node) {}), changed(file, func(*api.Node) {}))
	return right && same && nodes <= api.MaxSource && texts <= api.MaxTexts
}

// Trees of which something was changed by chance: just those are refused that are no checked files any more.
func TestTwisted(t *testing.T) {
	r := source(31)
	found := map[bool]int{}
	for range 400 {
		file := grown(t, r, 10)
		for range 5 {
			twisted := changed(file, func(*api.Node) {})
			l := nodesOf(&twisted)
			n, other := l[r.Intn(len(l))], l[r.Intn(len(l))]
			switch r.Intn(7) {
			case 0:
				n.Slot += r.Intn(3) - 1
			case 1:
				n.Type = other.Type
			case 2:
				n.Text = other.Text
			case 3:
				n.N = other.N
			case 4:
				n.Kind = other.Kind
			case 5:
				*n = changed(*other, func(*api.Node) {})
			case 6:
				n.Line = []int{-1, 0, api.MaxCount, api.MaxCount + 1}[r.Intn(4)]
			}
			right := fits(twisted)
			found[right]++
			if right {
				made(t, twisted)
			} else {
				wantRefused(t, textOf(twisted), twisted)
			}
		}
	}
	if found[true] < 200 || found[false] < 200 {
		t.Errorf("of little use: %v", found)
	}
}
