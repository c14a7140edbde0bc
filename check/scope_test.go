package check_test

import (
	"testing"

	"drowse/api"
)

// TestScopes: what a scope is, and where a name is seen.
func TestScopes(t *testing.T) {
	fineIn(t,
		"x := 1; { x := x; { x := x; _ = x }; _ = x }; _ = x",
		"{ x := 1; _ = x }; { x := true; _ = x }; x := make(Mutex); x.Lock()",
		"x := 1; if x == 1 { x := true; if x { x := x; _ = x } } else { x := 2; _ = x }",
		"x := 1; for x := x == 1; x; x = false { x := 1; x++; _ = x }; x--",
		"x := make(chan chan int); for x := range x { for x := range x { x := x; x++; _ = x } }",
		"x := 1; switch x { case x: x := true; _ = x; case x + 1: x := make(Mutex); x.Lock(); default: x++ }",
		"x := make(chan bool); select { case x := <-x: _ = !x; case x <- true: x := 1; x++; _ = x; default: x <- false }",
		"x := make(chan bool); select { case x, ok := <-x: if x { x := ok; _ = x }; case v, x := <-x: _ = v == x }",
		"var x int = 1; { var x bool = x == 1; { var x chan int = make(chan int); <-x }; _ = x }",
		"x := 1; { x = 2; x := true; x = false; _ = x }; x = 3; _ = x",
	)
	wantIn(t, api.ErrCheckName,
		"{ x := 1; _ = x }; ^x = 2", "if true { x := 1; _ = x } else { ^x = 2 }", "for i := 0; i < 1; { }; ^i = 1", "for { x := 1; _ = x }; _ = ^x", "for ; ; ^x = 1 { x := 1; _ = x }", "for i := 0; ^x; { x := i == 1; _ = x }", "for i := range make(chan int) { _ = i }; _ = ^i",
		"for range make(chan int) { x := 1; _ = x }; ^x--", "switch { case true: x := 1; _ = x; default: _ = ^x }", "switch { default: x := true; _ = x; case ^x: }", "select { case x := <-make(chan int): _ = x; case <-make(chan int): _ = ^x }", "select { default: x := 1; _ = x; case ^x = <-make(chan int): }",
		"_ = ^x; x := 1", "^x = 1; var x int", "if ^x { }; x := true; _ = x", "x := <-^c; c := make(chan int)", "{ _ = ^x }; x := 1; _ = x", "for { _ = ^x; x := 1; _ = x }",
	)
	// What one function declares is not seen in another one.
	wantMarked(t, "func main() { x := 1; _ = x }\nfunc f() { _ = ^x }", api.ErrCheckName)
	wantMarked(t, "func f(x int) { }\nfunc main() { ^x = 1 }", api.ErrCheckName)
	wantMarked(t, "func f(x int) { ^x := 1 }\nfunc main() { }", api.ErrCheckTwice)
	wantMarked(t, "func f(x int) { { x := true; _ = x }; x++ }\nfunc main() { }", api.OK)
	wantMarked(t, "func f(x int) { for x := range make(chan bool) { _ = x }; ^var x int }\nfunc main() { }", api.ErrCheckTwice)
	wantMarked(t, "func f(x int) bool { for x := x == 1; ; { return x } }\nfunc main() { }", api.OK)
}

// TestTypesOfScopes: the nearest one is spoken of.
func TestTypesOfScopes(t *testing.T) {
	wantIn(t, api.ErrCheckType,
		"x := 1; { x := true; ^x++ }", "x := true; { x := 1; _ = x }; ^x++", "x := 1; if true { x := true; _ = x; ^x = 1 }", "x := 1; for x := true; ; ^x++ { }", "x := make(chan bool); for x := range x { ^x++ }", "x := make(chan bool); select { case x := <-x: ^x++ }", "x := 1; switch { case true: x := true; _ = x ^+ 1 }",
		"x := 1; { ^x = true; x := true }", "x := 1; { var x chan int; x ^<- true }", "x := true; select { case x := <-make(chan int): ^if x { } }",
	)
	fineIn(t, "x := 1; { x := true; _ = x }; x++; _ = x + 1", "x := make(chan bool); for x := range x { _ = !x }; <-x", "x := 1; switch { case true: x := true; _ = !x; default: _ = -x }", "x := true; { x := 1; x++; _ = x }; x = !x")
}

func TestUsed(t *testing.T) {
	// Each place in which a Name is an expression uses its variable.
	for _, use := range []string{
		"var y int = x; _ = y", "y := x; _ = y", "_ = x", "x = x", "make(chan int) <- x", "pair(x, true)", "go pair(x, true)", "if x == 1 { }", "for x < 1 { }", "for ; x < 1; { }", "for y := x; y < 1; { }", "for ; ; make(WaitGroup).Add(x) { }", "switch x { }", "switch 1 { case 2, x: }", "switch { case x < 1: }", "println(\"\", x)",
		"_ = make(chan int, x)", "make(WaitGroup).Add(x)", "_ = -x", "_ = 1 + x", "select { case make(chan int) <- x: }", "select { default: _ = x }", "{ { _ = x } }", "for { if true { } else { _ = x } }", "for range make(chan int, x) { }",
	} {
		fineIn(t, "x := 1; "+use, "var x int; "+use)
		wantIn(t, api.ErrCheckUnused, "^x := 1; { x := 1; "+use+" }", "{ x := 1; "+use+" }; ^var x int")
	}
	for _, use := range []string{"<-c", "c <- 1", "for range c { }", "close(c)", "_ = len(c)", "_ = cap(c)", "_, _ = <-c", "v, _ := <-c; _ = v", "select { case <-c: }", "select { case c <- 1: }", "select { case _ = <-c: }", "select { case v := <-c: _ = v }", "sink(c)", "var x int; x, _ = <-c; _ = x"} {
		fineIn(t, "c := make(chan int); "+use)
	}
	fineIn(t, "m := make(Mutex); m.Lock()", "g := make(WaitGroup); g.Wait()", "m := make(Mutex); switch m { case nil: }")
	// Targets and a Step's Name use none.
	wantIn(t, api.ErrCheckUnused,
		"^x := 1; x = 2", "^var x int; x++", "^var x int; x--", "^var x int; x, _ = <-make(chan int)", "^var x bool; _, x = <-make(chan int)", "^var x int; for x = range make(chan int) { }", "^var x int; for x = 1; ; x++ { }", "^var x int; select { case x = <-make(chan int): }", "^var x bool; select { case _, x = <-make(chan int): x = true }",
	)
	// Who is declared first is told, not who stands on top.
	wantIn(t, api.ErrCheckUnused, "for { ^x := 1 }; y := 1", "y := 1; for { ^x := 1; x++ }; _ = y; z := 1", "{ { ^x := 1 } ; y := 2 }; z := 3", "switch { default: ^x := 1; case true: y := 1 }", "x, ^y := <-make(chan int); z := x", "for i := 0; ; { ^x := i }; y := 1")
}
