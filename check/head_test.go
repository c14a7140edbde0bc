package check_test

import (
	"strconv"
	"strings"
	"testing"

	"drowse/api"
)

// TestRows: the rows of the chapter.
func TestRows(t *testing.T) {
	const behind = "\nfunc f(c chan<- int) int { c <- 1; return 2 }\n"
	for _, c := range []struct {
		body string
		e    api.Errno
	}{
		{"^x := 1", api.ErrCheckUnused}, {"^x := 1; x++", api.ErrCheckUnused}, {"x := 1; { x := x; println(x) }", api.OK},
		{"c := make(chan int); f(c)", api.OK}, {"println(f(nil))", api.OK}, {"^f(1)", api.ErrCheckType},
		{"var c <-chan int; c ^<- 1", api.ErrCheckType}, {"var c <-chan int; for ^x := range c { }", api.ErrCheckUnused},
		{"^break", api.ErrCheckPlace}, {"for { switch { default: continue } }", api.OK},
	} {
		wantMarked(t, "func main() { "+c.body+" }"+behind, c.e)
	}
	n := wantFine(t, "func main() { x := 1; { x := x; println(x) } }"+behind)
	want := "Func main #2(Block(Define 1(Name x <int>, Int 1 <int>), Block(Define 1(Name x <int> #1, Name x <int>), Do(Call println(Name x <int> #1)))))"
	if got := shown(n.Kids[0]); got != want {
		t.Errorf("%s, not %s", got, want)
	}
}

// TestWhole: the ten examples of the whole are accepted, but the ninth.
func TestWhole(t *testing.T) {
	for _, src := range []string{
		`func main() { println("a", 1 + 2, true) }`,
		"func main() { var c chan int; <-c }",
		"func f(c chan<- int) { c <- 7 }\nfunc main() { c := make(chan int); go f(c); println(<-c) }",
		"func main() { c := make(chan int, 1); c <- 1; close(c); v, ok := <-c; println(v, ok); v, ok = <-c; println(v, ok) }",
		"func main() { c := make(chan int); close(c); close(c) }",
		"func main() { for { } }",
		"func main() { m := make(Mutex); m.Lock(); m.Lock() }",
		"func main() { select { } }",
		"func w(g WaitGroup) { println(\"w\"); g.Done() }\nfunc main() { g := make(WaitGroup); g.Add(2); go w(g); go w(g); g.Wait(); println(\"m\") }",
	} {
		wantFine(t, src)
	}
	wantMarked(t, "func main() { ^x := 1 }", api.ErrCheckUnused)
}

func TestHeadOfMain(t *testing.T) {
	for _, src := range []string{"", "\n;;", "func f() { }", "func Main() { }", "func f() { main() }", "func f(main int) { main++ }", "func f() { var main int; main++ }"} {
		wantFault(t, src, 0, api.ErrCheckMain)
	}
	for _, m := range []string{
		"^func main(a int) { }", "^func main() int { return 1 }", "func f() { }\n^func main(a chan int) bool { return true }", "^func main() Mutex { }", "^func main(a int) { a() }\nfunc f() { }",
		"func f() { x := 1 }\n^func main() int { }", "func f() int { }\nfunc g() { break }\n^func main(a int) { }",
	} {
		wantMarked(t, m, api.ErrCheckMain)
	}
	for _, src := range []string{"func main() { }", "func f(a int) int { return a }; func main() { }; func g() { }", "func main() { main(); go main() }", "func f() { main() }; func main() { f() }"} {
		wantFine(t, src)
	}
	// Ahead of what is told of main come the heads behind it, behind it all bodies.
	wantMarked(t, "func f() { }\n^func f() { }", api.ErrCheckTwice)
	wantMarked(t, "func main(a int) { }\nfunc f(a int, ^a int) { }", api.ErrCheckTwice)
	wantMarked(t, "func main() int { }\nfunc f() { }\n^func f() { }", api.ErrCheckTwice)
	wantMarked(t, "func main() { ^a++ }\nfunc f() { b++ }", api.ErrCheckName)
}

func TestHeads(t *testing.T) {
	for _, m := range []string{
		"func main() { }\n^func main() { }", "func main() { }\nfunc f() { }\n^func f(a int) int { return a }", "func f() { }\nfunc main() { }\n^func main(a int) { }",
		"func main() { x() }\nfunc f() { }\nfunc g() { }\n^func f() { }\nfunc g() { }", "func f() { break }\n^func f() { }",
		"func main() { }\nfunc f(a int, ^a int) { }", "func main() { }\nfunc f(a int, b bool, ^a chan int) { }",
		"func main() { }\nfunc f(a int, b int, ^b int, a int) { }", "func f(a int, ^a int) { }\nfunc f() { }", "func f(a int, b int) { }\n^func f(a int, a int) { }",
		"func f(a int, ^a int) int { }\nfunc main() { }", "func f(f int, ^f int) { }",
	} {
		wantMarked(t, m, api.ErrCheckTwice)
	}
	for _, src := range []string{
		"func main() { }\nfunc f(a int) { }\nfunc g(a int) { }", "func main() { }\nfunc f(f int, main bool, g Mutex) { }\nfunc g() { }",
		"func main() { }\nfunc f(a int, A int, _a int, a_ int, __ int) { }",
	} {
		wantFine(t, src)
	}
}

// params is the Params of a head, so many.
func params(count int) string {
	l := make([]string, count)
	for i := range l {
		l[i] = "p" + strconv.Itoa(i) + " int"
	}
	return strings.Join(l, ", ")
}

func TestManyParams(t *testing.T) {
	n := wantFine(t, "func main() { }\nfunc f("+params(8)+") { }")
	if n.Kids[1].Slot != 8 || n.Kids[1].Kids[7].Slot != 7 {
		t.Errorf("slots of Params: %s", shown(n.Kids[1]))
	}
	wantMarked(t, "func main() { }\n^func f("+params(9)+") { }", api.ErrCheckMany)
	wantMarked(t, "func main() { }\n^func f("+params(100)+") { }", api.ErrCheckMany)
	wantMarked(t, "^func main("+params(9)+") { }", api.ErrCheckMany)
	wantMarked(t, "^func main("+params(8)+") { }", api.ErrCheckMain)
	// Of one head: its name, how many Params, their names; head by head.
	wantMarked(t, "func f() { }\n^func f("+params(9)+") { }", api.ErrCheckTwice)
	wantMarked(t, "func main() { }\n^func f("+params(9)+", p0 int) { }", api.ErrCheckMany)
	wantMarked(t, "func main() { }\nfunc f("+params(7)+", ^p0 int) { }\nfunc g("+params(9)+") { }", api.ErrCheckTwice)
	wantMarked(t, "^func f("+params(9)+") { }\nfunc f() { }", api.ErrCheckMany)
}

// functions is so many functions.
func functions(count int) string {
	var s strings.Builder
	for i := range count {
		s.WriteString("func f" + strconv.Itoa(i) + "() { }\n")
	}
	return s.String()
}

func TestManyFunctions(t *testing.T) {
	n := wantFine(t, functions(99)+"func main() { f98(); main(); f0() }")
	calls := n.Kids[99].Kids[0].Kids
	for i, want := range []int{98, 99, 0} {
		if got := calls[i].Kids[0].Slot; got != want {
			t.Errorf("call %d: function %d, not %d", i, got, want)
		}
	}
	wantMarked(t, functions(100)+"^func main() { }", api.ErrCheckMany)
	wantMarked(t, "func main() { }\n"+functions(99)+"^func g() { }\nfunc h() { }", api.ErrCheckMany)
	wantMarked(t, functions(100)+"^func f0() { }", api.ErrCheckMany)
	wantMarked(t, functions(100)+"^func g("+params(9)+") { }", api.ErrCheckMany)
	wantMarked(t, functions(99)+"^func f98() { }\nfunc g() { }", api.ErrCheckTwice)
	wantMarked(t, functions(99)+"^func g("+params(9)+") { }\nfunc h() { }", api.ErrCheckMany)
	wantMarked(t, functions(99)+"func g(a int, ^a int) { }\nfunc h() { }", api.ErrCheckTwice)
}

// TestBodiesInOrder: function by function: the statements, whether it ends, what is not used.
func TestBodiesInOrder(t *testing.T) {
	for _, c := range []struct {
		marked string
		e      api.Errno
	}{
		{"func main() { ^x := 1 }\nfunc f() int { }", api.ErrCheckUnused},
		{"^func f() int { }\nfunc main() { x := 1 }", api.ErrCheckReturn},
		{"^func f() int { x := 1 }\nfunc main() { }", api.ErrCheckReturn},
		{"func f() int { ^x := 1; return 2 }\nfunc main() { }", api.ErrCheckUnused},
		{"func f() int { x := 1; ^break }\nfunc main() { }", api.ErrCheckPlace},
		{"func f() int { x := 1; ^break; return true }\nfunc main() { }", api.ErrCheckPlace},
		{"func main() { ^x := 1 }\nfunc f() { break }", api.ErrCheckUnused},
		{"func main() { }\nfunc f() { ^break; continue }\nfunc g() { x++ }", api.ErrCheckPlace},
		{"func main() { ^x := 1; y := 2 }", api.ErrCheckUnused},
		{"func main() { { ^x := 1 }; y := 2 }", api.ErrCheckUnused},
		{"func main() { x := 1; ^y := 2; _ = x }", api.ErrCheckUnused},
		{"func f(a int, b bool) { ^c := 1 }\nfunc main() { }", api.ErrCheckUnused},
		{"func f(a int, b bool) { }\nfunc main() { }", api.OK},
	} {
		wantMarked(t, c.marked, c.e)
	}
}
