package check_test

import (
	"strings"
	"testing"

	"drowse/api"
)

func TestVar(t *testing.T) {
	fineIn(t,
		"var x int; _ = x", "var x int = 1; _ = x", "var x bool = 1 < 2; _ = x", "var x Mutex; x.Lock()", "var x Mutex = nil; x.Lock()", "var x WaitGroup = make(WaitGroup); x.Wait()",
		"var c chan int = nil; <-c", "var c <-chan int = make(chan int); <-c", "var c chan<- int = make(chan int); c <- 1", "var c chan (<-chan int) = make(chan (<-chan int)); <-c", "var x int = number(); _ = x",
		"x := true; { var x int = pair(1, x); _ = x }",
	)
	wantIn(t, api.ErrCheckType,
		"^var x int = true; _ = x", "^var x bool = 1", "^var x int = nil", "^var x bool = nil", "^var x int = none()", "^var c chan int = make(<-chan int)", "^var c chan int = make(chan bool)", "^var c <-chan int = make(chan<- int)",
		"^var c chan (<-chan int) = make(chan chan int)", "^var m Mutex = make(WaitGroup)", "^var m Mutex = make(chan int)", "^var c chan int = none()", "x := 1; ^var x bool = x",
		"var x int = 1 ^+ true", "^var x bool = number(); var x int",
	)
	wantIn(t, api.ErrCheckName, "var x int = ^x", "var x int = ^y + true", "var x bool = ^y", "var x int = ^f(); var x int", "var x int = number(^x())")
	wantIn(t, api.ErrCheckTwice, "var x int; ^var x int; _ = x", "var x int; ^var x bool = true", "x := 1; ^var x int = x", "x, y := <-make(chan int); ^var y int")
	wantIn(t, api.ErrCheckUnused, "^var x int", "^var x int = 1", "^var x int; x = 1", "^var x int; x++; x--", "^var c chan int; for { c = nil }", "var x int; ^var y int = x")
}

func TestDefine(t *testing.T) {
	fineIn(t,
		"x := 1; _ = x", "x := 1 == 2; println(x)", "x := make(Mutex); x.Unlock()", "x := number(); x = 2; println(x)", "c := make(<-chan int); x := <-c; println(x)",
		"x, ok := <-make(chan bool); println(x, ok)", "x, _ := <-make(chan int); println(x)", "_, ok := <-make(chan Mutex); println(ok)", "c := make(chan chan int); d, ok := <-c; for ok { <-d }",
		"x := 1; { x := x == 1; if x { } }",
	)
	wantIn(t, api.ErrCheckType,
		"^x := nil", "^x := none()", "^x := close(make(chan int))", "^x := yield()", "^x := println()", "^x := make(Mutex).Lock()", "^x := nil; _ = x", "x := 1; ^x := nil",
		"x, y := ^<-1", "x, y := ^<-nil", "x, y := ^<-make(chan<- int)", "x := ^<-number()", "x := 1 ^+ nil", "x, _ := ^<-none()", "x := ^make(int)",
	)
	wantIn(t, api.ErrCheckTwice,
		"x := 1; ^x := 2; println(x)", "x, ^x := <-make(chan int)", "x := 1; ^x, y := <-make(chan int)", "y := 1; x, ^y := <-make(chan int)", "var x int; ^x := x", "x, _ := <-make(chan int); _, ^x := <-make(chan int)",
		"x, y := <-make(chan int); ^y, x := <-make(chan int)",
	)
	wantIn(t, api.ErrCheckName, "x := ^x", "x := ^y; x := 1", "x, y := <-^c", "x, y := <-^x", "x, x := <-^c", "x, y := <-^y", "x := <-^c + 1")
	wantIn(t, api.ErrCheckUnused, "^x := 1", "^x, y := <-make(chan int)", "^x, y := <-make(chan int); _ = y", "x, ^y := <-make(chan int); _ = x", "_, ^y := <-make(chan int)", "^x, _ := <-make(chan int)", "^x := 1; { x := 1; _ = x }")
}

func TestAssign(t *testing.T) {
	fineIn(t,
		"var x int; x = 1; _ = x", "var x int; x = x", "_ = 1", "_ = true", "_ = make(Mutex)", "_ = number()", "_ = <-make(chan int)", "var c <-chan int; c = nil; c = make(chan int); _ = c",
		"var x int; var y bool; x, y = <-make(chan int); println(x, y)", "_, _ = <-make(chan int)", "var y bool; _, y = <-make(chan int); _ = y", "var y bool; y, _ = <-make(chan bool); _ = y", "var y bool; y, y = <-make(chan bool); _ = y",
		"var c <-chan int; c, _ = <-make(chan chan int); <-c",
	)
	wantIn(t, api.ErrCheckName,
		"^x = 1", "^x = x", "x := 1; { y := x; _ = y }; ^y = 1", "^x, _ = <-make(chan int)", "_, ^x = <-make(chan int)", "^x, y = <-make(chan int)", "^x = y", "^x = none()", "x := 1; x, ^y = <-z", "^x, y = <-1", "_ = ^x", "_, _ = <-^c", "^f = 1", "^number = 1",
		"var x bool; x = ^y", "x := true; x, x = <-^y",
	)
	wantIn(t, api.ErrCheckType,
		"^_ = nil", "^_ = none()", "^_ = yield()", "var x int; ^x = true; _ = x", "var x int; ^x = nil", "var x int; ^x = none()", "var m Mutex; ^m = make(WaitGroup)", "var c chan int; ^c = make(<-chan int)", "var c chan int; ^c = make(chan bool)",
		"var x int; x, ^x = <-make(chan int); _ = x", "var x bool; ^x, x = <-make(chan int)", "var x int; _, ^x = <-make(chan bool)", "var c <-chan int; ^c, c = <-make(chan (<-chan bool))", "_, _ = ^<-1", "var x int; x = 1 ^+ true", "var x int; x = none() ^+ 1",
	)
	wantIn(t, api.ErrCheckUnused, "^x := 1; x = 2", "^x, y := <-make(chan int); x, y = <-make(chan int)", "var x int; ^var y bool; x, y = <-make(chan int); _ = x")
}

func TestStep(t *testing.T) {
	fineIn(t, "x := 1; x++; x--; _ = x", "x := 1; x--; { x++ }; println(x)")
	wantIn(t, api.ErrCheckName, "^x++", "^x--", "{ x := 1; _ = x }; ^x++", "^number++")
	wantIn(t, api.ErrCheckType, "x := true; ^x++", "var m Mutex; ^m--", "var c chan int; ^c++", "x := 1; { x := true; ^x++ }")
	wantIn(t, api.ErrCheckUnused, "^x := 1; x++", "^x := 1; for ; ; x-- { }")
}

func TestSend(t *testing.T) {
	fineIn(t,
		"make(chan int) <- 1", "make(chan<- int) <- number()", "make(chan Mutex) <- nil", "make(chan chan int) <- nil", "make(chan (<-chan int)) <- make(chan int)", "make(chan chan<- int) <- make(chan int)", "var c chan bool; c <- <-c", "<-make(chan chan int) <- 1",
	)
	wantIn(t, api.ErrCheckType,
		"make(<-chan int) ^<- 1", "make(chan int) ^<- true", "make(chan int) ^<- nil", "make(chan int) ^<- none()", "1 ^<- 1", "nil ^<- 1", "nil ^<- nil", "none() ^<- none()", "make(Mutex) ^<- 1", "make(chan chan int) ^<- make(<-chan int)", "make(chan chan int) ^<- make(chan bool)",
		"make(<-chan int) <- ^make(int)", "1 <- 1 ^+ true", "1 ^+ true <- x", "make(chan bool) ^<- 1",
	)
	wantIn(t, api.ErrCheckName, "^c <- 1", "1 <- ^x", "^c <- d", "make(<-chan int) <- ^x", "^c <- 1 + true")
}

func TestDo(t *testing.T) {
	fineIn(t, "none()", "number()", "pair(1, true)", "<-make(chan int)", "<-make(<-chan chan int)", "yield()", "println()", "println(len(make(chan int)), cap(make(chan int)))", "close(make(chan int))", "make(Mutex).Lock()", "make(WaitGroup).Add(1)", "locked(nil, nil).Lock()", "<-well(nil)")
	wantIn(t, api.ErrCheckType, "^len(make(chan int))", "^cap(make(chan int))", "^(len(make(chan int)))", "^len(make(<-chan int))", "^len(1)", "^<-<-make(chan int)", "^<-1", "close(1 ^+ true)")
	wantIn(t, api.ErrCheckCount, "^len()", "^cap(make(chan int), 1)")
	wantIn(t, api.ErrCheckName, "len(^c)", "^f()", "<-^c", "^c.Lock()", "f(^c)")
}

func TestIf(t *testing.T) {
	fineIn(t, "if true { }", "if 1 < 2 { } else { }", "if truth() { } else if false { } else { none() }", "x := 1; if x == 1 { x := 2; _ = x } else { x := 3; _ = x }", "if <-make(chan bool) { if true { } }")
	wantIn(t, api.ErrCheckType, "^if 1 { }", "^if nil { }", "^if none() { }", "^if make(Mutex) { }", "^if 1 { x++ }", "if true { } else ^if 1 { }", "if 1 ^+ true { }", "if true { ^if 1 { } } else { if 2 { } }", "if true { } else { ^if 2 { } }", "if true { } else if true { } else ^if number() { break }")
	wantIn(t, api.ErrCheckName, "if ^x { }", "if true { ^x++ }", "if true { } else { ^x++ }", "if true { ^x++ } else { break }", "if true { x := 1; _ = x } else { _ = ^x }", "if true { x := 1; _ = x }; ^x++", "if true { } else if ^x { y++ }", "if true { x := true; _ = x } else if ^x { }")
}

func TestFor(t *testing.T) {
	fineIn(t,
		"for { }", "for true { }", "for number() == 1 { break }", "for i := 0; i < 3; i++ { }", "for ; ; { }", "for ; true; { }", "var i int; for i = 1; i < 2; i = i + 1 { }", "for none(); truth(); yield() { }", "for v, ok := <-make(chan int); ok; println(v) { }",
		"var c chan int; for c <- 1; ; c <- 2 { }", "i := 0; for i++; ; i-- { _ = i }", "for <-make(chan int); ; <-make(chan int) { }", "for i := 0; ; { i := i; _ = i }", "for i := 0; ; i++ { _ = i; i := true; _ = i }",
	)
	wantIn(t, api.ErrCheckType,
		"^for 1 { }", "^for nil { }", "^for none() { }", "^for 1 { x++ }", "for 1 ^+ true { }", "^for ; 1; { }", "^for ; nil; x++ { }", "^for i := 0; i; i++ { }", "^for ; none(); { y++ }", "for ^i := nil; ; { }", "x := true; for ; ; ^x++ { y++ }", "for ^_ = nil; 1; { }", "for ; ; ^_ = nil { break }", "for ^len(make(chan int)); ; { }",
	)
	wantIn(t, api.ErrCheckName,
		"for ^x { }", "for i := ^i; ; { }", "for ^i++; 1; { }", "for ; ^i; j++ { }", "for ; ; ^i++ { j++ }", "for ; ; { ^i++ }", "for i := 0; i < 1; i++ { }; ^i++", "for i := 0; ; { _ = i; j := 1; _ = j }; ^i++", "for ; ; ^j++ { j := 1; _ = j }", "for i := 0; ^j; { j := i; _ = j }", "for i := 0; i < 1; { }; _ = ^i",
	)
	wantIn(t, api.ErrCheckUnused, "for ^i := 0; ; i++ { }", "for ^i := 0; ; { i := 1; _ = i }", "for i := 0; i < 1; { ^i := 1 }", "for ^i, ok := <-make(chan int); ok; { }")
	wantIn(t, api.ErrCheckTwice, "for i, ^i := <-make(chan int); ; { }", "for i := 0; ; { _ = i; j := 1; ^j := 1 }")
	// A name may be declared again in a For's head, and in its Block.
	fineIn(t, "i := 0; for i := i; i < 1; { i := i; _ = i }; _ = i", "i := 0; for i := i; i < 1; { i := i == 1; _ = i }")
}

func TestRange(t *testing.T) {
	fineIn(t,
		"for range make(chan int) { }", "for x := range make(<-chan int) { _ = x }", "var x int; for x = range make(chan int) { }; _ = x", "c := make(chan chan int); for c := range c { for c := range c { println(c) } }", "for x := range make(chan bool) { if x { break } else { continue } }",
		"var c <-chan int; for c = range make(chan chan int) { <-c }", "x := 1; for x := range make(chan bool) { _ = x }; x = x", "for x := range make(chan int) { x := x; _ = x }",
	)
	wantIn(t, api.ErrCheckType,
		"^for range 1 { }", "^for range nil { }", "^for range none() { }", "^for range make(chan<- int) { }", "^for x := range make(Mutex) { }", "^for x = range 1 { }", "^for x := range make(chan<- int) { _ = x }", "^for range true { x++ }", "for range 1 ^+ true { }",
		"var x int; for ^x = range make(chan bool) { }", "var x int; for ^x = range make(chan bool) { y++ }", "var c chan int; for ^c = range make(chan (<-chan int)) { }", "x := 1; ^for x := range x { }",
	)
	wantIn(t, api.ErrCheckName,
		"for range ^c { }", "for x := range ^x { }", "for ^x = range make(chan int) { }", "for ^x = range make(chan int) { y++ }", "for x = range ^y { }", "for x = range ^x { }", "for range make(chan int) { ^x++ }", "for x := range make(chan int) { _ = x }; ^x++", "for x := range make(chan int) { _ = x }; _ = ^x", "for ^number = range make(chan int) { }",
	)
	wantIn(t, api.ErrCheckUnused, "for ^x := range make(chan int) { }", "for ^x := range make(chan int) { x = 1 }", "for ^x := range make(chan int) { x := 1; _ = x }", "^x := 1; for x = range make(chan int) { }", "x := make(chan int); for ^x := range x { }")
	wantIn(t, api.ErrCheckTwice, "for x := range make(chan int) { y := x; ^y := x }")
}

func TestSwitch(t *testing.T) {
	fineIn(t,
		"switch { }", "switch 1 { }", "switch true { }", "switch make(Mutex) { }", "switch { case true: case 1 < 2, false: default: }", "switch 1 { case 1, 2: case number(): default: }", "switch make(chan int) { case nil: case make(<-chan int), make(chan<- int), make(chan int): }",
		"switch make(<-chan int) { case make(chan int): case nil: }", "switch make(WaitGroup) { case nil: }", "switch { case true: x := 1; _ = x; default: x := true; _ = x }", "x := 1; switch x { case x: x := true; switch x { case x: } }", "switch true { case true, 1 == 2: break }", "switch 1 { default: break; case 1: { break } }",
	)
	wantIn(t, api.ErrCheckType,
		"^switch nil { }", "^switch none() { }", "^switch nil { case nil: }", "^switch none() { case x: }", "switch 1 ^+ true { }", "switch { ^case 1: }", "switch { ^case nil: }", "switch { ^case none(): }", "switch { case true, false: ^case true, 1: }", "switch 1 { ^case true: }", "switch 1 { ^case nil: }", "switch 1 { case 2: ^case none(): }",
		"switch true { ^case 1: }", "switch make(chan int) { ^case make(chan bool): }", "switch make(<-chan int) { ^case make(chan<- int): }", "switch make(Mutex) { case nil: ^case make(WaitGroup): }", "switch 1 { ^case 2, true, x: }", "switch 1 { ^case true: x++ }", "switch 1 { ^case true: case x: }", "switch 1 { case 2 ^+ true, true: }", "switch { default: ^_ = nil; case 1: }",
	)
	wantIn(t, api.ErrCheckName, "switch ^x { case nil: }", "switch { case ^x: }", "switch 1 { case 1, ^x, true: }", "switch { case true: ^x++; case 1: }", "switch { case true: x := 1; _ = x; case false: ^x++ }", "switch { default: ^x++; case y: }", "switch { case true: x := true; _ = x; case ^x: }", "switch { case ^x: x := true; _ = x }", "switch { default: x := 1; _ = x }; ^x++")
	wantIn(t, api.ErrCheckTwice, "switch { case true: x := 1; ^x := x }", "switch { default: var x int; ^var x bool }")
	wantIn(t, api.ErrCheckUnused, "switch { case true: ^x := 1; case false: x := 2; _ = x }", "^x := 1; switch { case true: x := 1; _ = x }")
}

func TestSelect(t *testing.T) {
	fineIn(t,
		"select { }", "select { default: }", "c := make(chan int); select { case c <- 1: case <-c: case x := <-c: _ = x; case x, ok := <-c: println(x, ok); default: }", "var x int; var ok bool; c := make(chan int); select { case x = <-c: case x, ok = <-c: case _ = <-c: case _, _ = <-c: println(x, ok) }",
		"c := make(chan chan int); select { case c := <-c: select { case c := <-c: println(c) }; case <-c: }", "x := make(chan bool); select { case x := <-x: _ = x; case x <- true: x := 1; _ = x }", "select { case <-make(chan int): break; default: { break } }",
	)
	wantIn(t, api.ErrCheckType, "select { case make(<-chan int) ^<- 1: }", "select { case ^<-make(chan<- int): }", "select { case x := ^<-1: }", "select { case _ = ^<-none(): }", "var x int; select { case ^x = <-make(chan bool): }", "var x int; select { case x, ^x = <-make(chan int): }", "select { case <-make(chan int): ^_ = nil; case <-1: }", "select { default: ^if 1 { }; case <-1: }")
	wantIn(t, api.ErrCheckName, "select { case <-^c: }", "select { case ^c <- x: }", "select { case x := <-^x: }", "select { case ^x = <-make(chan int): }", "select { case <-make(chan int): ^x++ }", "select { case x := <-make(chan int): _ = x; case ^x = <-make(chan int): }", "select { case x := <-make(chan int): _ = x; default: _ = ^x }", "select { case x := <-make(chan int): _ = x }; ^x++", "select { default: ^x++; case y <- 1: }", "select { case x, ok := <-make(chan int): println(x, ok); case make(chan bool) <- ^ok: }")
	wantIn(t, api.ErrCheckTwice, "select { case x := <-make(chan int): ^x := x }", "select { case x, ^x := <-make(chan int): }", "select { case _, x := <-make(chan int): ^var x int }", "select { default: x := 1; ^x := 2 }")
	wantIn(t, api.ErrCheckUnused, "select { case ^x := <-make(chan int): }", "select { case x, ^ok := <-make(chan int): _ = x }", "select { case ^x := <-make(chan int): x = 1; case x := <-make(chan int): _ = x }", "select { case ^x := <-make(chan int): { x := 1; _ = x } }")
	// A name of an outer scope may be declared again in an Arm's statement, and in a Block within it.
	fineIn(t, "x := 1; select { case x := <-make(chan bool): if x { x := 1; _ = x } }; x = x")
}

func TestGo(t *testing.T) {
	fineIn(t, "go none()", "go number()", "go pair(1, true)", "go sink(make(chan int))", "go main()", "go locked(nil, nil)")
	wantIn(t, api.ErrCheckType, "go ^pair(1, 2)", "go ^sink(make(<-chan int))", "none := 1; go ^none()", "go pair(1 ^+ true, 2)")
	wantIn(t, api.ErrCheckCount, "go ^none(1)", "go ^pair()", "go ^pair(1)")
	wantIn(t, api.ErrCheckName, "go ^f()", "go none(^x)", "go f(^x)")
}

func TestReturn(t *testing.T) {
	fineIn(t, "return", "return; return", "if true { return }; none()")
	wantIn(t, api.ErrCheckCount, "^return 1", "^return nil", "^return x", "^return none()", "if true { ^return 1 + true }")
	for _, c := range []struct {
		result, marked string
		e              api.Errno
	}{
		{"int", "return 1", api.OK}, {"bool", "return 1 == 2", api.OK}, {"Mutex", "return nil", api.OK}, {"<-chan int", "return make(chan int)", api.OK}, {"chan<- int", "return nil", api.OK},
		{"int", "^return", api.ErrCheckCount}, {"Mutex", "for { ^return }", api.ErrCheckCount}, {"int", "if true { ^return }; return 1", api.ErrCheckCount},
		{"int", "^return true", api.ErrCheckType}, {"int", "^return nil", api.ErrCheckType}, {"int", "^return none()", api.ErrCheckType}, {"chan int", "^return make(<-chan int)", api.ErrCheckType}, {"Mutex", "^return make(WaitGroup)", api.ErrCheckType}, {"bool", "return 1 ^+ true", api.ErrCheckType}, {"chan int", "^return make(chan bool)", api.ErrCheckType},
		{"int", "return ^x", api.ErrCheckName}, {"bool", "x := 1; return pair(x, ^y) + x", api.ErrCheckName},
	} {
		wantMarked(t, "func f() "+c.result+" { "+c.marked+" }\nfunc main() { }"+beside, c.e)
	}
}

func TestBreakAndContinue(t *testing.T) {
	for _, around := range []string{"for { @ }", "for true { @ }", "for ; ; { @ }", "for range make(chan int) { @ }", "for { if true { @ } }", "for { { @ } }", "for { for { }; @ }", "for { switch { }; @ }", "for { select { }; @ }", "for { switch { case true: @ } }", "for { select { default: @ } }", "for { switch { default: select { case <-make(chan int): { @ } } } }", "switch { default: for { @ } }", "select { default: for { if true { } else { @ } } }"} {
		fineIn(t, strings.Replace(around, "@", "break", 1), strings.Replace(around, "@", "continue", 1), strings.Replace(around, "@", "continue; break", 1))
	}
	for _, around := range []string{"switch { case true: @ }", "switch 1 { default: @ }", "select { default: @ }", "select { case <-make(chan int): @ }", "switch { default: { if true { @ } } }", "for { }; switch { default: @ }", "switch { default: for { }; @ }", "select { default: for { continue }; @ }", "switch { default: select { default: @ } }"} {
		fineIn(t, strings.Replace(around, "@", "break", 1))
		wantIn(t, api.ErrCheckPlace, strings.Replace(around, "@", "^continue", 1))
	}
	for _, around := range []string{"@", "{ @ }", "if true { @ }", "if true { } else { @ }", "for { }; @", "for { break }; @", "switch { }; @", "switch { default: }; @", "select { }; @", "select { default: break }; { @ }"} {
		wantIn(t, api.ErrCheckPlace, strings.Replace(around, "@", "^break", 1), strings.Replace(around, "@", "^continue", 1), strings.Replace(around, "@", "^break; continue", 1))
	}
	// What stands around in one function says nothing of another one.
	wantMarked(t, "func main() { for { } }\nfunc f() { ^break }", api.ErrCheckPlace)
	wantMarked(t, "func main() { switch { default: for { break } } }\nfunc f() { ^continue }", api.ErrCheckPlace)
}
