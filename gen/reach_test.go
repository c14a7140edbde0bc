package gen_test

import (
	"strings"
	"testing"

	"drowse/api"
)

// heldRow is a source, and the least number of objects with which it does not end for want of room.
type heldRow struct {
	src  string
	need int
}

func wantHeld(t *testing.T, rows []heldRow) {
	t.Helper()
	for _, r := range rows {
		file := checked(t, r.src)
		p := made(t, file)
		for objects := 1; objects <= r.need+1; objects++ {
			l := roomy()
			l.Objects = objects
			o := played(t, file, p, setting{limits: l, pieces: []int{50}})
			if full := o.Fate == api.FatalMemory; full != (objects < r.need) {
				t.Errorf("%s\nwith room for %d: %s, wanted room for %d", r.src, objects, brief(o), r.need)
			}
		}
	}
}

// A variable holds what it holds till its scope is left, in whatever way.
func TestScopesHold(t *testing.T) {
	const one = "x := make(Mutex); x.Lock()"
	const two = "y := make(Mutex); y.Lock()"
	wantHeld(t, []heldRow{
		{body(""), 0},
		{body(one), 1},
		{body(one + "; " + two), 2},
		{body("{ " + one + " }; " + two), 1},
		{body("{ " + one + "; { " + two + " } }"), 2},
		{body("{ " + one + " }; { " + two + " }; { x := make(Mutex); x.Lock() }"), 1},
		{body("{ { " + one + " } }; " + two), 1},
		{body("if true { " + one + " }; " + two), 1},
		{body("if false { } else { " + one + " }; " + two), 1},
		{body("if false { } else if true { " + one + " }; " + two), 1},
		{body("for i := 0; i < 3; i++ { " + one + " }; " + two), 1},
		{body("for i := 0; i < 3; i++ { " + one + "; continue }; " + two), 1},
		{body("for i := 0; i < 3; i++ { if true { " + one + "; { continue } } }; " + two), 1},
		{body("for i := 0; i < 3; i++ { " + one + "; break }; " + two), 1},
		{body("for i := 0; i < 3; i++ { if true { " + one + "; { break } } }; " + two), 1},
		{body("for i := 0; i < 3; i++ { " + one + "; " + two + " }"), 2},
		{body("for i := 0; i < 3; i++ { for { " + one + "; break }; " + two + " }"), 1},
		{body("for i := 0; i < 3; i++ { for j := 0; j < 3; j++ { " + one + "; if j == 1 { continue } }; " + two + "; if i == 1 { continue }; break }"), 1},
		{body("for x := make(Mutex); ; { x.Lock(); break }; " + two), 1},
		{body("for x := make(Mutex); false; { x.Lock() }; " + two), 1},
		{body("for x := make(Mutex); ; { x.Lock(); " + two + "; break }"), 2},
		{body("i := 0; for ; i < 3; f(make(Mutex)) { "+one+"; i++ }") + "\nfunc f(x Mutex) { x.Lock() }", 1},
		{body("i := 0; for ; i < 3; f(make(Mutex)) { "+one+"; i++; continue }") + "\nfunc f(x Mutex) { x.Lock() }", 1},
		{body("switch { case true: " + one + " }; " + two), 1},
		{body("switch { default: " + one + "; if true { break }; println(1) }; " + two), 1},
		{body("switch { case true: for { " + one + "; break }; " + two + " }"), 1},
		{body("for i := 0; i < 3; i++ { switch { default: " + one + "; continue }; println(1) }; " + two), 1},
		{body("select { default: " + one + " }; " + two), 1},
		{body("select { default: " + one + "; if true { break }; println(1) }; " + two), 1},
		{body("for i := 0; i < 3; i++ { select { default: " + one + "; continue } }; " + two), 1},
		{body("c := make(chan Mutex, 1); c <- make(Mutex); select { case x := <-c: x.Lock() }; " + two), 2},
		{body("c := make(chan Mutex, 1); c <- make(Mutex); select { case x := <-c: x.Lock(); " + two + " }"), 3},
		{body("c := make(chan Mutex, 1); c <- make(Mutex); select { case x, ok := <-c: println(ok); x.Lock(); if ok { break } }; " + two), 2},
		{body("c := make(chan Mutex, 1); c <- make(Mutex); select { case <-c: " + two + " }"), 2},
		{body("c := make(chan Mutex, 1); c <- make(Mutex); select { case _, ok := <-c: println(ok); " + two + " }"), 2},
		{body("c := make(chan Mutex, 1); c <- make(Mutex); select { case _ = <-c: " + two + " }"), 2},
		{body("x := make(Mutex); x.Lock(); x = nil; " + two), 1},
		{body("x := make(Mutex); x.Lock(); x = make(Mutex); x.Lock()"), 2},
		{body("for i := 0; i < 3; i++ { var x Mutex; " + two + "; x = make(Mutex); x.Lock() }"), 2},
		{body("for i := 0; i < 3; i++ { var c chan Mutex; " + two + "; c = make(chan Mutex, 1); c <- y }"), 2},
		{"func f() { " + one + " }\n" + body("f(); f(); "+two), 1},
		{"func f() { " + one + "; return }\n" + body("f(); "+two), 1},
		{"func f() { for { " + one + "; switch { default: return } } }\n" + body("f(); "+two), 1},
		{"func f() { " + one + " }\n" + body(two+"; f()"), 2},
		{"func f(n int) { " + one + "; if n > 0 { f(n - 1) } }\n" + body("f(3)"), 4},
		{"func f(n int) { { " + one + " }; if n > 0 { f(n - 1) } }\n" + body("f(3)"), 1},
		{"func f() { " + one + "; yield() }\n" + body("go f(); go f(); yield(); "+two), 3},
		{"func f() { " + one + " }\n" + body("go f(); go f(); yield(); "+two), 1},
		{"func f() { { " + one + " }; yield() }\n" + body("go f(); go f(); yield(); "+two), 1},
	})
}

// What was reckoned holds till it is used, and not longer.
func TestExpressionsHold(t *testing.T) {
	const fs = "func id(c chan int) chan int { return c }\nfunc drop(c chan int) int { c = nil; d := make(chan int); return len(d) }\nfunc fresh() chan int { return make(chan int, 1) }\nfunc two(c chan int, d chan int) int { return cap(c) + cap(d) }\nfunc yes() bool { return len(make(chan int)) == 0 }\nfunc null() chan int { c := make(chan int); if len(c) == 0 { return nil }; return c }\n"
	wantHeld(t, []heldRow{
		{fs + body("make_ := fresh(); fresh(); _ = make_"), 2},
		{fs + body("fresh(); fresh(); fresh()"), 1},
		{fs + body("_ = fresh(); _ = fresh()"), 1},
		{fs + body("println(fresh() == fresh())"), 2},
		{fs + body("println(len(fresh()) + len(fresh()))"), 1},
		{fs + body("println(len(fresh()), len(fresh()), len(fresh()))"), 1},
		{fs + body("println(fresh() == nil && fresh() == nil, fresh() != nil || fresh() == nil)"), 1},
		{fs + body("println(fresh() != nil && fresh() != nil)"), 1},
		{fs + body("println(two(fresh(), fresh()))"), 2},
		{fs + body("println(two(id(fresh()), nil), two(nil, id(id(fresh()))))"), 1},
		{fs + body("println(two(fresh(), null()))"), 2},
		{fs + body("println(drop(fresh()))"), 1},
		{fs + body("c := fresh(); println(drop(c))"), 2},
		{fs + body("go two(fresh(), fresh()); yield(); fresh()"), 2},
		{fs + body("go drop(fresh()); yield(); fresh()"), 1},
		{fs + body("fresh() <- len(fresh())"), 2},
		{fs + body("fresh() <- 1; fresh() <- 2"), 1},
		{fs + body("c := make(chan chan int, 1); c <- fresh(); fresh()"), 3},
		{fs + body("c := make(chan chan int, 1); c <- fresh(); <-c; fresh()"), 2},
		{fs + body("c := make(chan chan int, 1); c <- fresh(); x, ok := <-c; fresh(); println(x == nil, ok)"), 3},
		{fs + body("c := make(chan chan int, 1); c <- fresh(); _, ok := <-c; fresh(); println(ok)"), 2},
		{fs + body("c := make(chan chan int, 1); c <- fresh(); println(two(<-c, fresh()))"), 3},
		{fs + body("c := make(chan chan int, 1); c <- fresh(); println(len(<-c), yes())"), 2},
		{fs + body("c := make(chan int, 1); make(chan chan int, 1) <- c; fresh()"), 2},
		{fs + body("make(Mutex).Lock(); make(Mutex).Lock(); make(WaitGroup).Add(len(fresh()))"), 2},
		{fs + body("make(WaitGroup).Wait(); make(WaitGroup).Add(1); make(Mutex).Lock()"), 1},
		{fs + body("close(fresh()); close(fresh())"), 1},
		{fs + body("c := make(chan int, len(fresh()) + len(fresh())); println(len(c))"), 1},
		{fs + body("if fresh() != nil { fresh() }; for fresh() != nil { fresh(); break }"), 1},
		{"func f(c chan int) chan int { d := make(chan int); d = nil; e := make(chan int); return two(c, d, e) }\nfunc two(c chan int, d chan int, e chan int) chan int { c = nil; e = nil; return make(chan int) }\n" + body("c := f(make(chan int)); println(c == nil)"), 3},
		{"func f() Mutex { x := make(Mutex); return x }\n" + body("f(); f(); m := f(); m.Lock(); f().Lock()"), 2},
		{"func f(n int) Mutex { x := make(Mutex); if n == 0 { return nil }; f(n - 1); return x }\n" + body("f(2)"), 3},
	})
}

// What a For, a Switch and a Select hold, and when they let it go.
func TestStatementsHold(t *testing.T) {
	const fs = "func fresh() chan int { return make(chan int, 1) }\nfunc full() chan int { c := make(chan int, 2); c <- 1; c <- 2; close(c); return c }\nfunc yes() bool { return len(make(chan int)) == 0 }\n"
	wantHeld(t, []heldRow{
		{fs + body("switch fresh() { case nil: }"), 1},
		{fs + body("switch fresh() { case fresh(): }"), 2},
		{fs + body("switch fresh() { case fresh(), fresh(), fresh(): case fresh(): }"), 2},
		{fs + body("switch fresh() { case fresh(): default: fresh(); x := fresh(); _ = x }"), 2},
		{fs + body("switch fresh() { case nil: default: fresh(); x := fresh(); fresh(); _ = x }"), 2},
		{fs + body("switch fresh() { default: x := fresh(); _ = x }"), 1},
		{fs + body("switch fresh() { }; fresh()"), 1},
		{fs + body("switch fresh() { case nil: }; fresh()"), 1},
		{fs + body("switch { case yes(), fresh() == nil: fresh() }"), 1},
		{fs + body("switch fresh() == nil { case yes(): fresh(); default: fresh() }"), 1},
		{fs + body("c := fresh(); switch c { case c: x := fresh(); _ = x; switch c { case c: } }"), 2},
		{fs + body("switch fresh() { default: switch fresh() { default: switch fresh() { case fresh(): } } }"), 2},
		{fs + body("for range full() { }"), 1},
		{fs + body("for range full() { fresh() }"), 2},
		{fs + body("for range full() { x := fresh(); _ = x }; fresh()"), 2},
		{fs + body("for range full() { break }; fresh()"), 1},
		{fs + body("for range full() { continue }; fresh()"), 1},
		{fs + body("for range full() { for range full() { } }"), 2},
		{fs + body("for range full() { for range full() { break }; fresh(); for range full() { for range full() { } } }; for range full() { fresh() }"), 3},
		{fs + body("for range full() { for range full() { for range full() { break }; fresh(); break }; fresh(); continue }; fresh()"), 3},
		{"func f() { for range full() { fresh(); return } }\n" + fs + body("f(); fresh()"), 2},
		{"func f() { for range full() { f2() } }\nfunc f2() { for range full() { switch fresh() { case fresh(): } } }\n" + fs + body("f()"), 4},
		{"func many() chan Mutex { c := make(chan Mutex, 3); c <- make(Mutex); c <- make(Mutex); close(c); return c }\n" + body("for x := range many() { x.Lock() }; m := make(Mutex); m.Lock()"), 3},
		{"func many() chan Mutex { c := make(chan Mutex, 3); c <- make(Mutex); c <- nil; close(c); return c }\n" + body("for x := range many() { y := make(Mutex); y.Lock(); _ = x }"), 3},
		{"func many() chan Mutex { c := make(chan Mutex, 3); c <- make(Mutex); c <- nil; close(c); return c }\n" + body("for range many() { y := make(Mutex); y.Lock() }"), 2},
		{"func many() chan Mutex { c := make(chan Mutex, 3); c <- make(Mutex); close(c); return c }\n" + body("var x Mutex; for x = range many() { }; y := make(Mutex); y.Lock(); x.Lock()"), 2},
		{"func feed(c chan Mutex) { c <- make(Mutex); make(Mutex).Lock(); c <- nil; close(c) }\n" + body("c := make(chan Mutex); go feed(c); for x := range c { _ = x }"), 3},
		{fs + body("select { case fresh() <- len(fresh()): }"), 2},
		{fs + body("select { case fresh() <- 1: case fresh() <- 2: case fresh() <- 3: }"), 3},
		{fs + body("select { case fresh() <- 1: fresh(); x := fresh(); _ = x }; fresh()"), 1},
		{fs + body("select { case <-fresh(): case <-fresh(): default: fresh(); x := fresh(); _ = x }"), 2},
		{fs + body("select { case <-fresh(): default: x := fresh(); _ = x; y := fresh(); _ = y; z := fresh(); _ = z }"), 3},
		{"func f(c chan chan int) { select { case c <- make(chan int): } }\n" + fs + body("c := make(chan chan int); go f(c); yield(); fresh(); x := fresh(); _ = x; <-c; fresh()"), 3},
		{"func f(c chan chan int) { c <- make(chan int) }\n" + fs + body("c := make(chan chan int); go f(c); yield(); fresh(); <-c; yield(); x := fresh(); _ = x; fresh()"), 3},
		{"func f(c chan chan int) { x := <-c; yield(); println(x == nil) }\n" + fs + body("c := make(chan chan int); go f(c); yield(); c <- fresh(); c = nil; fresh(); yield(); fresh(); yield()"), 3},
		{"func f(c chan chan int) { <-c; c = nil; yield() }\n" + fs + body("c := make(chan chan int); go f(c); yield(); c <- fresh(); c = nil; yield(); fresh(); fresh(); yield()"), 2},
	})
}

// A run that makes objects again and again goes on with as few as it holds at a time.
func TestNoLeak(t *testing.T) {
	src := "func f(c chan chan int) int { for x := range c { switch x { case nil: return 1; default: for { y := x; if y == x { break } } } }; return 2 }\n" +
		body("for i := 0; ; i++ {\nc := make(chan chan int, 3)\nc <- make(chan int)\nif i % 2 == 0 { c <- nil }\nclose(c)\nselect {\ncase d, ok := <-c:\nif ok && d != nil { switch f(c) { case 1: println(1); continue; case 2: println(2) } }\n}\n}")
	file := checked(t, src)
	l := api.Limits{Gos: 1, Objects: 2, Depth: 2, Out: 40000}
	o := played(t, file, made(t, file), setting{limits: l, pieces: []int{1000, 1000}})
	if o.End != api.EndBeats || !strings.HasPrefix(o.Output, "1\n2\n1\n2\n") {
		t.Errorf("%s", short(brief(o)))
	}
}
