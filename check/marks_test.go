package check_test

import (
	"strings"
	"testing"

	"drowse/api"
)

// wantMarks: the statements of a main, behind those that are passed over, are told so.
func wantMarks(t *testing.T, stmts string, pass int, want ...string) {
	t.Helper()
	n := wantFine(t, inMain(stmts))
	if len(n.Kids) == 0 {
		return
	}
	l := n.Kids[0].Kids[0].Kids[pass:]
	if len(l) < len(want) {
		t.Fatalf("%s: %d statements", stmts, len(l))
	}
	for i, w := range want {
		if got := shown(l[i]); got != w {
			t.Errorf("%s:\n%s, not\n%s", stmts, got, w)
		}
	}
}

func TestMarksOfSettings(t *testing.T) {
	wantMarks(t, "var i int; var b bool = true; var c <-chan int = nil; _ = i; _ = b; _ = c", 0,
		"Var i <int>", "Var b <bool> #1(Bool 1 <bool>)", "Var c <<-chan int> #2(Nil <nil>)", "Assign 1(Name _ #-1, Name i <int>)", "Assign 1(Name _ #-1, Name b <bool> #1)")
	wantMarks(t, "i := 1; c := make(chan bool, i); v, ok := <-c; w, _ := <-c; _, z := <-c; println(v, ok, w, z)", 0,
		"Define 1(Name i <int>, Int 1 <int>)", "Define 1(Name c <chan bool> #1, Make <chan bool>(Name i <int>))",
		"Define 2(Name v <bool> #2, Name ok <bool> #3, Unary <- <bool>(Name c <chan bool> #1))", "Define 2(Name w <bool> #4, Name _ #-1, Unary <- <bool>(Name c <chan bool> #1))", "Define 2(Name _ #-1, Name z <bool> #5, Unary <- <bool>(Name c <chan bool> #1))",
		"Do(Call println(Name v <bool> #2, Name ok <bool> #3, Name w <bool> #4, Name z <bool> #5))")
	wantMarks(t, "i := 1; var c <-chan int; i = 2; c = nil; c = make(chan int); _ = c; i, _ = <-c; _, _ = <-c; i = i", 2,
		"Assign 1(Name i <int>, Int 2 <int>)", "Assign 1(Name c <<-chan int> #1, Nil <nil>)", "Assign 1(Name c <<-chan int> #1, Make <chan int>)", "Assign 1(Name _ #-1, Name c <<-chan int> #1)",
		"Assign 2(Name i <int>, Name _ #-1, Unary <- <int>(Name c <<-chan int> #1))", "Assign 2(Name _ #-1, Name _ #-1, Unary <- <int>(Name c <<-chan int> #1))", "Assign 1(Name i <int>, Name i <int>)")
	wantMarks(t, "_ = 0; i := 1; j := i; j++; i--; _ = j", 3, "Step 1(Name j <int> #1)", "Step -1(Name i <int>)")
	wantMarks(t, "c := make(chan chan int); c <- nil; <-c <- 1; <-c; <-<-c", 1,
		"Send(Name c <chan chan int>, Nil <nil>)", "Send(Unary <- <chan int>(Name c <chan chan int>), Int 1 <int>)", "Do(Unary <- <chan int>(Name c <chan chan int>))", "Do(Unary <- <int>(Unary <- <chan int>(Name c <chan chan int>)))")
}

func TestMarksOfBranches(t *testing.T) {
	wantMarks(t, "b := true; if b { b := 1; _ = b } else if b { b := 2; _ = b } else { b := b; _ = b }", 1,
		"If(Name b <bool>, Block(Define 1(Name b <int> #1, Int 1 <int>), Assign 1(Name _ #-1, Name b <int> #1)), If(Name b <bool>, Block(Define 1(Name b <int> #2, Int 2 <int>), Assign 1(Name _ #-1, Name b <int> #2)), Block(Define 1(Name b <bool> #3, Name b <bool>), Assign 1(Name _ #-1, Name b <bool> #3))))")
	wantMarks(t, "for { break }; for true { continue }", 0, "For(Block(Break))", "For 1(Bool 1 <bool>, Block(Continue))")
	wantMarks(t, "for i := 1; i < 2; i++ { i := i; _ = i }; for ; ; { }", 0,
		"For 2(Define 1(Name i <int>, Int 1 <int>), Binary < <bool>(Name i <int>, Int 2 <int>), Step 1(Name i <int>), Block(Define 1(Name i <int> #1, Name i <int>), Assign 1(Name _ #-1, Name i <int> #1)))", "For 2(None, None, None, Block)")
	wantMarks(t, "var x int; c := make(chan int); for x = range c { }; for range c { }; for c := range c { c := c; _ = c + x }", 2,
		"For = 3(Name x <int>, Name c <chan int> #1, Block)", "For 3(None, Name c <chan int> #1, Block)", "For := 3(Name c <int> #2, Name c <chan int> #1, Block(Define 1(Name c <int> #3, Name c <int> #2), Assign 1(Name _ #-1, Binary + <int>(Name c <int> #3, Name x <int>))))")
	wantMarks(t, "x := 1; switch x { case 1, x: x := true; _ = x; default: x := nil == make(Mutex); _ = x }; switch { case x == 1: }", 1,
		"Switch 1(Name x <int>, Case(Int 1 <int>, Name x <int>, Block(Define 1(Name x <bool> #1, Bool 1 <bool>), Assign 1(Name _ #-1, Name x <bool> #1))), Case 1(Block(Define 1(Name x <bool> #2, Binary == <bool>(Nil <nil>, Make <Mutex>)), Assign 1(Name _ #-1, Name x <bool> #2))))",
		"Switch(Case(Binary == <bool>(Name x <int>, Int 1 <int>), Block))")
	wantMarks(t, "c := make(chan bool); var b bool; select { case c <- b: case <-c: case c := <-c: _ = c; case b, _ = <-c: default: { c := 1; _ = c } }", 2,
		"Select(Arm(Send(Name c <chan bool>, Name b <bool> #1), Block), Arm(Do(Unary <- <bool>(Name c <chan bool>)), Block), Arm(Define 1(Name c <bool> #2, Unary <- <bool>(Name c <chan bool>)), Block(Assign 1(Name _ #-1, Name c <bool> #2))), Arm(Assign 2(Name b <bool> #1, Name _ #-1, Unary <- <bool>(Name c <chan bool>)), Block), Arm 1(Block(Block(Define 1(Name c <int> #3, Int 1 <int>), Assign 1(Name _ #-1, Name c <int> #3)))))")
}

func TestMarksOfCalls(t *testing.T) {
	// Behind main come none 1, number 2, truth 3, pair 4, sink 5, well 6, locked 7.
	wantMarks(t, "main(); none(); _ = pair(number(), truth()); go sink(nil); <-well(nil); locked(nil, nil).Lock(); return", 0,
		"Do(Call main)", "Do(Call none #1)", "Assign 1(Name _ #-1, Call pair <int> #4(Call number <int> #2, Call truth <bool> #3))", "Go(Call sink <int> #5(Nil <nil>))", "Do(Unary <- <int>(Call well <<-chan int> #6(Nil <nil>)))", "Do(Method Lock(Call locked <Mutex> #7(Nil <nil>, Nil <nil>)))", "Return")
	wantMarks(t, "_ = 1; c := make(chan int, 2); println(len(c), cap(c)); close(c); yield(); println(\"c\", \"\")", 2,
		"Do(Call println(Call len <int>(Name c <chan int>), Call cap <int>(Name c <chan int>)))", "Do(Call close(Name c <chan int>))", "Do(Call yield)", "Do(Call println(Text c, Text))")
	wantMarks(t, "i := 1; g := make(WaitGroup); m := make(Mutex); g.Add(i); g.Done(); g.Wait(); m.Lock(); m.Unlock()", 3,
		"Do(Method Add(Name g <WaitGroup> #1, Name i <int>))", "Do(Method Done(Name g <WaitGroup> #1))", "Do(Method Wait(Name g <WaitGroup> #1))", "Do(Method Lock(Name m <Mutex> #2))", "Do(Method Unlock(Name m <Mutex> #2))")
	wantMarks(t, "_ = -1 + +2; _ = !true || false; _ = 1 % 2 != 3", 0,
		"Assign 1(Name _ #-1, Binary + <int>(Unary - <int>(Int 1 <int>), Unary + <int>(Int 2 <int>)))", "Assign 1(Name _ #-1, Binary || <bool>(Unary ! <bool>(Bool 1 <bool>), Bool <bool>))", "Assign 1(Name _ #-1, Binary != <bool>(Binary % <int>(Int 1 <int>, Int 2 <int>), Int 3 <int>))")
	n := wantFine(t, "func f(a int, b chan bool) <-chan int { c := a; { d := c; _ = d }; return g(b, a) }\nfunc main() { }\nfunc g(x <-chan bool, y int) chan int { for { } }")
	want := "File(Func f <<-chan int> #4(Param a <int>, Param b <chan bool> #1, Block(Define 1(Name c <int> #2, Name a <int>), Block(Define 1(Name d <int> #3, Name c <int> #2), Assign 1(Name _ #-1, Name d <int> #3)), Return(Call g <chan int> #2(Name b <chan bool> #1, Name a <int>)))), Func main(Block), Func g <chan int> #2(Param x <<-chan bool>, Param y <int> #1, Block(For(Block))))"
	if got := shown(n); got != want {
		t.Errorf("%s, not %s", got, want)
	}
}

// TestPlacesStay: At, Line, Kind, Text, N and Kids are as they were, and so are the Types of what is no expression.
func TestPlacesStay(t *testing.T) {
	src := "func f(a int,\n b chan bool) int {\n\tfor x := range b {\n\t\tswitch {\n\t\tcase x: return a\n\t\t}\n\t}\n\tselect {\n\tcase v, _ := <-b: println(v, \"\\n\")\n\tdefault:\n\t}\n\treturn 1 }\n\n\nfunc main() { _ = f(1, nil); for ; ; { } }"
	given := parsed(t, src)
	marked := map[api.NodeKind]int{}
	told := wantFine(t, src)
	bare := func(n api.Node) api.Node {
		return changed(n, func(n *api.Node) {
			n.Slot = 0
			switch n.Kind {
			case api.NodeName, api.NodeInt, api.NodeBool, api.NodeNil, api.NodeUnary, api.NodeBinary, api.NodeCall, api.NodeMethod:
				n.Type = ""
				marked[n.Kind]++
			}
		})
	}
	if !whole(bare(given), bare(told)) {
		t.Errorf("%s, not %s", shown(told), shown(given))
	}
	if len(marked) < 4 {
		t.Errorf("too few kinds: %v", marked)
	}
}

// variables is so many Defines, each used, and what names them.
func variables(count int, ahead string) string {
	var s strings.Builder
	for i := range count {
		x := ahead + string(rune('a'+i%26)) + string(rune('a'+i/26))
		s.WriteString(x + " := 1; _ = " + x + "; ")
	}
	return s.String()
}

func TestManyVariables(t *testing.T) {
	n := wantFine(t, inMain(variables(199, "x")+"var last int; _ = last"))
	l := n.Kids[0].Kids[0].Kids
	if n.Kids[0].Slot != 200 || l[len(l)-2].Slot != 199 || l[len(l)-1].Kids[1].Slot != 199 {
		t.Errorf("slots: %d, %s", n.Kids[0].Slot, shown(l[len(l)-1]))
	}
	wantIn(t, api.ErrCheckMany,
		variables(200, "x")+"^y := 1", variables(200, "x")+"^var y int", variables(200, "x")+"^y := 1; y := 2; x++", variables(200, "x")+"{ ^y := 1 }", variables(100, "x")+"{ "+variables(100, "y")+" }; { ^z := 1 }", variables(200, "x")+"for ^i := 0; ; { }", variables(200, "x")+"for ^i := range make(chan int) { }",
		variables(200, "x")+"select { case ^v := <-make(chan int): }", variables(199, "x")+"v, ^ok := <-make(chan int)", variables(199, "x")+"switch { default: v, ^ok := <-make(chan int) }", variables(200, "x")+"_, ^ok := <-make(chan int)", variables(200, "x")+"if true { ^xaa := 1 }",
	)
	wantIn(t, api.ErrCheckTwice, variables(200, "x")+"^xaa := 1", variables(200, "x")+"^var xzb int", variables(199, "x")+"v, ^v := <-make(chan int)")
	wantIn(t, api.ErrCheckType, variables(200, "x")+"^y := nil", variables(200, "x")+"^var y int = true", variables(200, "x")+"^for y := range 1 { }")
	fineIn(t, variables(199, "x")+"v, _ := <-make(chan int); _ = v", variables(200, "x")+"_, _ = <-make(chan int); for { xaa++ }")
	// The Params are among them; each function has its own.
	wantMarked(t, "func main() { }\nfunc f("+params(8)+") { "+variables(192, "x")+" }", api.OK)
	wantMarked(t, "func main() { }\nfunc f("+params(8)+") { "+variables(192, "x")+"^y := 1 }", api.ErrCheckMany)
	wantMarked(t, "func main() { "+variables(200, "x")+" }\nfunc f() { "+variables(200, "x")+" }", api.OK)
	wantMarked(t, "func main() { "+variables(200, "x")+" }\nfunc f() { "+variables(200, "x")+"^y := 1 }", api.ErrCheckMany)
}

func TestManyArms(t *testing.T) {
	arms := func(count int) string { return strings.Repeat("case <-make(chan int): ", count) }
	fineIn(t, "select { "+arms(49)+"}", "select { "+arms(50)+"}", "select { default: "+arms(50)+"}", "select { "+arms(50)+"default: }", "select { "+arms(50)+"}; select { "+arms(50)+"}")
	wantIn(t, api.ErrCheckMany, "^select { "+arms(51)+"}", "^select { default: "+arms(51)+"}", "^select { "+arms(51)+"default: }", "^select { case <-x: "+arms(50)+"}", "^select { "+arms(50)+"case <-1: x++ }", "if true { ^select { "+arms(200)+"} }", "select { default: ^select { "+arms(51)+"} }", "select { "+arms(49)+"case <-make(chan int): ^select { "+arms(51)+"} }")
	// No Switch has that bound.
	fineIn(t, "switch { "+strings.Repeat("case true: ", 100)+"}", "switch { case "+lot("true", 100)+": }")
}
