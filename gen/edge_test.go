package gen_test

import (
	"strconv"
	"strings"
	"testing"

	"drowse/api"
	"drowse/gen"
)

func node(kind api.NodeKind, kids ...api.Node) api.Node { return api.Node{Kind: kind, Kids: kids} }

// fileOf is a file whose main has these statements.
func fileOf(statements ...api.Node) api.Node {
	main := node(api.NodeFunc, node(api.NodeBlock, statements...))
	main.Text = "main"
	return node(api.NodeFile, main)
}

// printing is a println of some texts.
func printing(texts ...string) api.Node {
	call := node(api.NodeCall)
	call.Text = "println"
	for _, s := range texts {
		call.Kids = append(call.Kids, api.Node{Kind: api.NodeText, Text: s})
	}
	return node(api.NodeDo, call)
}

// As many nodes as a source has bytes, and one more.
func TestManyNodes(t *testing.T) {
	empty := make([]api.Node, api.MaxSource-3)
	for i := range empty {
		empty[i] = node(api.NodeBlock)
	}
	made(t, told(t, fileOf(empty...)))
	wantRefused(t, "20001 nodes", told(t, fileOf(append(empty, node(api.NodeBlock))...)))

	// Each Break and each Continue leaves as many variables as there may be.
	src := "func main() {\nfor {\n"
	for i := range api.MaxVars {
		src += "var v" + strconv.Itoa(i) + " int; _ = v" + strconv.Itoa(i) + "\n"
	}
	file := checked(t, src+"if false { break }\nif true { continue }\n}\n}")
	block := &file.Kids[0].Kids[0].Kids[0].Kids[0]
	leaving := block.Kids[len(block.Kids)-2:]
	for range 2200 {
		block.Kids = append(block.Kids, leaving...)
	}
	p := made(t, file)
	played(t, file, p, setting{limits: roomy(), pieces: []int{20}})
}

// Trees whose kids share memory may have more nodes than anybody could go through.
func TestSharedNodes(t *testing.T) {
	n := node(api.NodeBlock)
	for range 34 {
		n = node(api.NodeBlock, n, n)
	}
	wantRefused(t, "more nodes than can be counted", fileOf(n))
	deep := node(api.NodeBlock)
	for range 30000 {
		deep = node(api.NodeBlock, deep)
	}
	wantRefused(t, "a tree that is nested deep", fileOf(deep))
	for range 30 {
		n = node(api.NodeNone, n, n, n)
	}
	wantRefused(t, "no file at all", n)

	// Shared memory alone is no fault.
	n = node(api.NodeBlock)
	for range 12 {
		n = node(api.NodeBlock, n, n)
	}
	made(t, told(t, fileOf(n)))
}

// As many bytes of Texts as there may be, and one more, wherever they stand.
func TestManyTexts(t *testing.T) {
	long := strings.Repeat("x", api.MaxTexts/4)
	file := func(more string) api.Node {
		f := fileOf(printing(long, long))
		f.Kids = append(f.Kids, f.Kids[0])
		f.Kids[1].Text = "f"
		f.Kids[1].Kids = fileOf(printing(long, long[1:], more)).Kids[0].Kids
		return told(t, f)
	}
	p := made(t, file("y"))
	total := 0
	for _, items := range p.Prints {
		for _, item := range items {
			total += len(item.Text)
		}
	}
	if total != api.MaxTexts {
		t.Errorf("%d bytes of texts", total)
	}
	wantRefused(t, "20001 bytes of texts", file("yz"))
	wantRefused(t, "a text of 20001 bytes", told(t, fileOf(printing(strings.Repeat("x", api.MaxTexts+1)))))
	made(t, told(t, fileOf(printing(strings.Repeat("\x00", api.MaxTexts)))))

	// Names are no Texts, however many bytes they have.
	name := strings.Repeat("n", api.MaxName)
	src := "func main() {\n" + name + " := 0\n" + strings.Repeat(name+" = "+name+"\n", 300) + "}\n"
	few := checked(t, src)
	for range 3 {
		block := &few.Kids[0].Kids[0]
		block.Kids = append(block.Kids[:len(block.Kids):len(block.Kids)], block.Kids[1:]...)
	}
	made(t, few)
}

// Functions with nothing in them, and main first, last and between others.
func TestFunctions(t *testing.T) {
	for src, main := range map[string]int{
		"func main() { }":                                               0,
		"func main() { }\nfunc f() { }":                                 0,
		"func f() { }\nfunc main() { }":                                 1,
		"func f() { }\nfunc main() { }\nfunc g(x int) bool { for { } }": 1,
		"func f(a int, b chan<- (chan bool), c Mutex) WaitGroup { return nil }\nfunc g(a int) { }\nfunc main() { f(1, nil, nil); g(1) }": 2,
	} {
		file := checked(t, src)
		p := made(t, file)
		if p.Main != main {
			t.Errorf("%s: Main is %d", src, p.Main)
		}
		for i, f := range p.Funcs {
			if f.Slots < f.Params || f.Slots > api.MaxSlots {
				t.Errorf("%s: function %d has %d Slots", src, i, f.Slots)
			}
		}
		if o := played(t, file, p, setting{limits: roomy(), pieces: []int{10}}); o.End != api.EndMain {
			t.Errorf("%s: %s", src, brief(o))
		}
	}
	p := made(t, checked(t, "func main() { }"))
	if l := p.Funcs[0].Code; len(p.Funcs) != 1 || p.Funcs[0].Name != "main" || l[0].Op != api.OpBeat || len(p.Prints)+len(p.Arms) != 0 {
		t.Errorf("an empty main: %+v", p)
	}
}

// Every limit of check met at once: functions, params, variables, items, arms.
func TestMostOfAll(t *testing.T) {
	src := ""
	for i := range api.MaxFuncs - 1 {
		src += "func f" + strconv.Itoa(i) + "(a int, b int, c int, d int, e int, f int, g int, h int) int { return a + h }\n"
	}
	src += "func main() {\nc := make(chan int, 100)\nclose(make(chan int))\n"
	for i := range api.MaxVars - 5 {
		src += "v" + strconv.Itoa(i) + " := " + strconv.Itoa(i) + "\n"
	}
	src += "println(v0"
	for i := range api.MaxItems - 1 {
		src += ", v" + strconv.Itoa(10*i+1)
	}
	src += ")\n" + strings.Repeat("_ = v2 == v3\n", 3)
	for i := range api.MaxVars - 5 {
		src += "c <- v" + strconv.Itoa(i) + "\n<-c\n"
	}
	src += "select {\n"
	for i := range api.MaxArms - 4 {
		src += "case c <- f" + strconv.Itoa(i) + "(" + strconv.Itoa(i) + ", 0, 0, 0, 0, 0, 0, 0):\n"
	}
	src += "case x := <-c: println(x)\ncase x, ok := <-c: println(x, ok)\ncase _, ok := <-c: println(ok)\ncase <-c:\ndefault:\n}\nprintln(<-c)\n}\n"
	if len(src) > api.MaxSource {
		t.Fatalf("a source of %d bytes", len(src))
	}
	file := checked(t, src)
	p := made(t, file)
	if main := p.Funcs[p.Main]; p.Main != api.MaxFuncs-1 || main.Slots < api.MaxVars || len(p.Prints[0]) != api.MaxItems || len(p.Arms[0]) != api.MaxArms {
		t.Errorf("main has %d slots", main.Slots)
	}
	o := played(t, file, p, setting{limits: roomy(), lots: picks(17), pieces: []int{100}})
	want := "0 1 11 21 31 41 51 61 71 81 91 101 111 121 131 141 151 161 171 181\n17\n"
	if o.End != api.EndMain || o.Output != want {
		t.Errorf("%s", brief(o))
	}
}

// As many Fors over channels within one another as a tree has room for, in a function with as many variables as there may be.
func TestDeepLoops(t *testing.T) {
	const most, targets = 18, 17
	src := "func full() chan int { c := make(chan int, 2); c <- 1; c <- 2; close(c); return c }\nfunc main() {\n"
	for i := range api.MaxVars - targets {
		src += "v" + strconv.Itoa(i) + " := full(); _ = v" + strconv.Itoa(i) + "\n"
	}
	for i := range targets {
		src += "for r" + strconv.Itoa(i) + " := range full() {\n_ = r" + strconv.Itoa(i) + "\n"
	}
	src += "println(r16)\nfor range full() {\n" + strings.Repeat("break\n}\n", most) + "}\n"
	file := checked(t, src)
	p := made(t, file)
	if s := p.Funcs[1].Slots; s < api.MaxVars+most || s > api.MaxSlots {
		t.Errorf("%d slots", s)
	}
	held := api.MaxVars - targets + most
	for objects, want := range map[int]string{500: "main [1|]", held: "main [1|]", held - 1: "memory [1|]", held - 2: "memory []"} {
		l := api.Limits{Gos: 1, Objects: objects, Depth: 2, Out: 100}
		if o := played(t, file, p, setting{limits: l, pieces: []int{1000}}); brief(o) != want {
			t.Errorf("with room for %d: %s", objects, brief(o))
		}
	}
}

// Many Fors over channels, Switches and Selects, one behind the other, in a function with as many variables as there may be.
func TestManyHolds(t *testing.T) {
	src := "func main() {\nc := make(chan int)\nclose(c)\n"
	for i := range api.MaxVars - 1 {
		src += "v" + strconv.Itoa(i) + " := c; _ = v" + strconv.Itoa(i) + "\n"
	}
	src += strings.Repeat("for range c { for range c { } }\n", 130) + strings.Repeat("switch c { }\n", 130) + strings.Repeat("select { default: }\n", 130) + "println(1)\n}\n"
	file := checked(t, src)
	o := played(t, file, made(t, file), setting{limits: roomy(), pieces: []int{1000}})
	if brief(o) != "main [1|]" {
		t.Errorf("%s", brief(o))
	}
}

// Statements and expressions within one another, as deep as may be.
func TestDeep(t *testing.T) {
	for what, src := range map[string]string{
		"ifs":      "func main() {\n" + strings.Repeat("if true {\n", 18) + strings.Repeat("}\n", 18) + "println(1) }",
		"else ifs": "func main() {\nx := 40\nif x == 0 {\n}" + many(30, func(i int) string { return " else if x == " + strconv.Itoa(i) + " {\n}" }) + " else {\nprintln(1)\n}\n}",
		"switches": "func main() {\n" + strings.Repeat("switch {\ndefault:\n", 11) + "println(1)\n" + strings.Repeat("}\n", 11) + "}",
		"selects":  "func main() {\n" + strings.Repeat("select {\ndefault:\n", 11) + "println(1)\n" + strings.Repeat("}\n", 11) + "}",
		"minuses":  "func main() {\nx := 1\nprintln(" + strings.Repeat("- ", 32) + "x)\n}",
		"nots":     "func main() {\nif " + strings.Repeat("!", 34) + "true {\nprintln(1)\n}\n}",
		"sums":     "func main() {\nprintln(" + strings.Repeat("(1 * ", 32) + "1" + strings.Repeat(")", 32) + ")\n}",
		"ands":     "func main() {\nif " + strings.Repeat("(true && ", 30) + "true" + strings.Repeat(")", 30) + " {\nprintln(1)\n}\n}",
		"ors":      "func main() {\nif " + strings.Repeat("(false || ", 30) + "true" + strings.Repeat(")", 30) + " {\nprintln(1)\n}\n}",
		"calls":    "func f(a int, b int, c int, d int, e int, f int, g int, h int) int { return h }\nfunc main() {\nprintln(" + strings.Repeat("f(1, 2, 3, 4, 5, 6, 7, ", 33) + "1" + strings.Repeat(")", 33) + ")\n}",
		"items":    "func f(a int, b int, c int, d int, e int, f int, g int, h int) int { return h }\nfunc main() {\nc := make(chan int, 9); select {\n" + strings.Repeat("case c <- 2:\n", 49) + "case c <- " + strings.Repeat("f(1, 2, 3, 4, 5, 6, 7, ", 30) + "1" + strings.Repeat(")", 30) + ":\n}\nprintln(<-c - 1)\n}",
	} {
		file := checked(t, src)
		o := played(t, file, made(t, file), setting{limits: roomy(), pieces: []int{1000}})
		if brief(o) != "main [1|]" {
			t.Errorf("%s: %s", what, brief(o))
		}
	}
}

func many(count int, part func(i int) string) string {
	s := ""
	for i := range count {
		s += part(i)
	}
	return s
}

// Numbers at their edges, as they stand in a tree.
func TestNumbers(t *testing.T) {
	for _, n := range []int64{0, 1, 1<<31 - 1, 1 << 31, 1<<32 - 1, 1 << 32, 1<<63 - 1} {
		call := node(api.NodeCall, api.Node{Kind: api.NodeInt, N: n})
		call.Text = "println"
		file := told(t, fileOf(node(api.NodeDo, call)))
		o := played(t, file, made(t, file), setting{limits: roomy(), pieces: []int{1}})
		if o.Output != strconv.FormatInt(n, 10)+"\n" {
			t.Errorf("%d: %s", n, brief(o))
		}
	}
}

// Gen answers whatever it is given.
func TestNilKids(t *testing.T) {
	p, e := gen.Gen(api.Node{Kind: api.NodeFile, Kids: []api.Node{}})
	if e != api.ErrGenTree || len(p.Funcs) != 0 {
		t.Errorf("a file without functions: %d", e)
	}
}
