package gen_test

import (
	"reflect"
	"strconv"
	"strings"
	"testing"

	"drowse/api"
)

// row is a source and what comes of it, in brief.
type row struct {
	src, want string
}

// wantRows: each source comes to what stands there, at once and in pieces.
func wantRows(t *testing.T, l api.Limits, beats int, rows []row) {
	t.Helper()
	for _, r := range rows {
		file := checked(t, r.src)
		p := made(t, file)
		o := played(t, file, p, setting{limits: l, pieces: []int{beats}})
		if got := brief(o); got != r.want {
			t.Errorf("%s\ncomes to %s\nwanted   %s", r.src, got, r.want)
		}
		if pieces := played(t, file, p, setting{limits: l, pieces: ones(beats)}); !reflect.DeepEqual(pieces, o) {
			t.Errorf("%s\nin pieces comes to %+v, at once to %+v", r.src, pieces, o)
		}
		relined := lined(file)
		played(t, relined, made(t, relined), setting{limits: l, lots: picks(1, 2, 3, 4, 5, 6, 7, 8), pieces: []int{beats / 2, beats}})
	}
}

func ones(count int) []int {
	l := []int{0}
	for range count {
		l = append(l, 1)
	}
	return l
}

func picks(l ...int) []api.Lot {
	var lots []api.Lot
	for _, x := range l {
		lots = append(lots, api.Lot{Pick: x})
	}
	return lots
}

// body is a source whose main has these statements.
func body(statements string) string { return "func main() {\n" + statements + "\n}" }

// The ten examples of the whole.
func TestWholeExamples(t *testing.T) {
	wantRows(t, roomy(), 10, []row{
		{`func main() { println("a", 1 + 2, true) }`, "main [a 3 true|]"},
		{`func main() { var c chan int; <-c }`, "asleep 1.main@1:nilrecv []"},
		{"func f(c chan<- int) { c <- 7 }\nfunc main() { c := make(chan int); go f(c); println(<-c) }", "main [7|]"},
		{`func main() { c := make(chan int, 1); c <- 1; close(c); v, ok := <-c; println(v, ok); v, ok = <-c; println(v, ok) }`, "main [1 true|0 false|]"},
		{`func main() { c := make(chan int); close(c); close(c) }`, "closeclosed []"},
		{`func main() { for { } }`, "pauses []"},
		{`func main() { m := make(Mutex); m.Lock(); m.Lock() }`, "asleep 1.main@1:lock []"},
		{`func main() { select { } }`, "asleep 1.main@1:nocases []"},
		{"func w(g WaitGroup) { println(\"w\"); g.Done() }\nfunc main() { g := make(WaitGroup); g.Add(2); go w(g); go w(g); g.Wait(); println(\"m\") }", "main [w|w|m|]"},
	})
}

// The examples of chapter 20, with its limits.
func TestModelExamples(t *testing.T) {
	wantRows(t, api.Limits{Gos: 2, Objects: 1, Depth: 3, Out: 10}, 5, []row{
		{"func f() { f() }\nfunc main() { f() }", "depth []"},
		{`func main() { a := make(Mutex); b := make(Mutex); a.Lock(); b.Lock() }`, "memory []"},
		{`func main() { for { a := make(Mutex); a.Lock() } }`, "pauses []"},
		{"func f() { select { } }\nfunc main() { go f(); yield(); go f(); go f() }", "gos 2.f@1:nocases []"},
		{`func main() { println("12345678"); println("x") }`, "output [12345678|]"},
	})
}

// A beat is spent where a function begins and ahead of each turn of a For, and nowhere else.
func TestBeats(t *testing.T) {
	for src, want := range map[string]int{
		"func main() { }": 1,
		"func main() { if true { { switch { default: } } } }":                                                 1,
		"func f() { }\nfunc main() { f(); f() }":                                                              3,
		"func f() { f() }\nfunc main() { f() }":                                                               50,
		"func main() { for i := 0; i < 3; i++ { } }":                                                          5,
		"func main() { for i := 0; i < 3; i++ { continue } }":                                                 5,
		"func main() { for { break } }":                                                                       2,
		"func main() { for false { } }":                                                                       2,
		"func main() { c := make(chan int, 2); c <- 1; c <- 2; close(c); for range c { } }":                   4,
		"func main() { c := make(chan int, 2); c <- 1; c <- 2; close(c); for x := range c { println(x) } }":   4,
		"func g() int { return 1 }\nfunc main() { for g() == 2 { } }":                                         3,
		"func g() int { return 1 }\nfunc main() { for i := g(); i < g(); i = g() { } }":                       4,
		"func g() chan int { c := make(chan int); close(c); return c }\nfunc main() { for range g() { } }":    3,
		"func main() { for i := 0; i < 2; i++ { for j := 0; j < 2; j++ { } } }":                               10,
		"func f() { for { return } }\nfunc main() { go f(); yield() }":                                        3,
		"func main() { for i := 0; i < 4; i++ { if i % 2 == 0 { continue }; for { break }; println(i) } }":    8,
		"func main() { c := make(chan int, 1); for i := 0; i < 2; i++ { select { case c <- i: default: } } }": 4,
	} {
		file := checked(t, src)
		p := made(t, file)
		o := played(t, file, p, setting{limits: roomy(), pieces: []int{100}})
		if o.Beats != want {
			t.Errorf("%s: %d beats, wanted %d", src, o.Beats, want)
		}
		// It pauses where a beat is missing, however few there were.
		for beats := range want {
			o := played(t, file, p, setting{limits: roomy(), pieces: []int{beats}})
			if o.End != api.EndBeats || o.Beats != beats {
				t.Errorf("%s: with %d beats: end %d, %d beats", src, beats, o.End, o.Beats)
			}
		}
	}
}

func TestExpressions(t *testing.T) {
	var rows []row
	for e, want := range map[string]string{
		"1":                                "1",
		"9223372036854775807":              "9223372036854775807",
		"9223372036854775807 + 1":          "-9223372036854775808",
		"-9223372036854775807 - 2":         "9223372036854775807",
		"4611686018427387904 * 2":          "-9223372036854775808",
		"-(-9223372036854775807 - 1)":      "-9223372036854775808",
		"(-9223372036854775807 - 1) / -1":  "-9223372036854775808",
		"(-9223372036854775807 - 1) % -1":  "0",
		"7 / 2":                            "3",
		"-7 / 2":                           "-3",
		"7 / -2":                           "-3",
		"7 % 3":                            "1",
		"-7 % 3":                           "-1",
		"7 % -3":                           "1",
		"7 - 2 - 1":                        "4",
		"7 - (2 - 1)":                      "6",
		"2 + 3 * 4":                        "14",
		"(2 + 3) * 4":                      "20",
		"+5":                               "5",
		"-5":                               "-5",
		"- -5":                             "5",
		"true":                             "true",
		"false":                            "false",
		"!true":                            "false",
		"!false":                           "true",
		"1 < 2":                            "true",
		"2 < 2":                            "false",
		"3 < 2":                            "false",
		"1 <= 2":                           "true",
		"2 <= 2":                           "true",
		"3 <= 2":                           "false",
		"1 > 2":                            "false",
		"2 > 2":                            "false",
		"3 > 2":                            "true",
		"1 >= 2":                           "false",
		"2 >= 2":                           "true",
		"3 >= 2":                           "true",
		"1 == 2":                           "false",
		"2 == 2":                           "true",
		"1 != 2":                           "true",
		"2 != 2":                           "false",
		"true == true":                     "true",
		"true != true":                     "false",
		"true && true":                     "true",
		"true && false":                    "false",
		"false && true":                    "false",
		"false && false":                   "false",
		"true || true":                     "true",
		"true || false":                    "true",
		"false || true":                    "true",
		"false || false":                   "false",
		"c == c":                           "true",
		"c == d":                           "false",
		"c != d":                           "true",
		"c == nil":                         "false",
		"nil != c":                         "true",
		"e == nil":                         "true",
		"e != nil":                         "false",
		"make(chan int) == make(chan int)": "false",
		"len(c)":                           "1",
		"cap(c)":                           "2",
		"len(e)":                           "0",
		"cap(e)":                           "0",
		"len(d) + cap(d)":                  "0",
		"cap(make(chan int))":              "0",
		"cap(make(chan int, 100))":         "100",
		"<-c":                              "41",
		"-<-c + 1":                         "-40",
		"1 + <-c * len(c)":                 "1",
		"len(c) - <-c - len(c)":            "-40",
		"f(1, 2)":                          "12",
		"f(f(1, 2), f(3, 4))":              "154",
		"1 + f(2, 3) * f(4, 5)":            "1036",
		"true && f(0, 1) == 1":             "true",
	} {
		src := "func f(a int, b int) int {\nreturn a * 10 + b\n}\n" + body("c := make(chan int, 2)\nd := make(chan int)\nvar e chan int\nc <- 41\nclose(d)\nprintln("+e+")\n_ = c\n_ = e")
		rows = append(rows, row{src, "main [" + want + "|]"})
	}
	wantRows(t, roomy(), 10, rows)
}

// What divides by 0, or has no room, ends the run there.
func TestExpressionsThatEnd(t *testing.T) {
	wantRows(t, roomy(), 10, []row{
		{body("println(1); println(1 / (1 - 1)); println(2)"), "divide [1|]"},
		{body("println(1); println(1 % (1 - 1)); println(2)"), "divide [1|]"},
		{body("println(1); c := make(chan int, 101); println(len(c))"), "size [1|]"},
		{body("println(1); c := make(chan int, -1); println(len(c))"), "size [1|]"},
		{body("var c chan int; close(c)"), "closenil []"},
		{body("c := make(chan int); close(c); c <- 1"), "sendclosed []"},
		{body("var m Mutex; m.Lock()"), "nilmutex []"},
		{body("var m Mutex; m.Unlock()"), "nilmutex []"},
		{body("m := make(Mutex); m.Unlock()"), "unlock []"},
		{body("var g WaitGroup; g.Add(0)"), "nilgroup []"},
		{body("var g WaitGroup; g.Done()"), "nilgroup []"},
		{body("var g WaitGroup; g.Wait()"), "nilgroup []"},
		{body("g := make(WaitGroup); g.Done()"), "counter []"},
		{body("g := make(WaitGroup); g.Add(2147483647); g.Done(); g.Add(1); println(1); g.Add(1)"), "counter [1|]"},
		{body("g := make(WaitGroup); g.Wait(); m := make(Mutex); m.Lock(); m.Unlock(); m.Lock(); println(1)"), "main [1|]"},
	})
}

// The right side of && and || is reckoned only where the left one does not decide; all else from the left.
func TestOrder(t *testing.T) {
	said := "func b(n int, v bool) bool {\nprintln(n)\nreturn v\n}\nfunc i(n int) int {\nprintln(n)\nreturn n\n}\nfunc c(n int) chan int {\nprintln(n)\nreturn make(chan int, 1)\n}\nfunc three(a int, b bool, d int) {\nprintln(a, b, d)\n}\n"
	wantRows(t, roomy(), 100, []row{
		{said + body("println(b(1, true) && b(2, true))"), "main [1|2|true|]"},
		{said + body("println(b(1, true) && b(2, false))"), "main [1|2|false|]"},
		{said + body("println(b(1, false) && b(2, true))"), "main [1|false|]"},
		{said + body("println(b(1, true) || b(2, true))"), "main [1|true|]"},
		{said + body("println(b(1, false) || b(2, true))"), "main [1|2|true|]"},
		{said + body("println(b(1, false) || b(2, false) || b(3, true))"), "main [1|2|3|true|]"},
		{said + body("println(b(1, false) && b(2, true) || b(3, true) && b(4, false))"), "main [1|3|4|false|]"},
		{said + body("println(1 / 1 == 1 || 1 / 0 == 1, 1 == 2 && 1 / 0 == 1)"), "main [true false|]"},
		{said + body("println(i(1) + i(2) * i(3), \"x\", b(4, true))"), "main [1|2|3|4|7 x true|]"},
		{said + body("three(i(1), b(2, false), i(3))"), "main [1|2|3|1 false 3|]"},
		{said + body("go three(i(1), b(2, false), i(3)); println(4); yield()"), "main [1|2|3|4|1 false 3|]"},
		{said + body("c(1) <- i(2)"), "main [1|2|]"},
		{said + body("select {\ncase c(1) <- i(2):\nprintln(3)\ncase <-c(4):\ncase c(5) <- i(6):\nprintln(7)\ndefault:\n}"), "main [1|2|4|5|6|3|]"},
		{said + body("select {\ncase x := <-c(1):\nprintln(x)\ndefault:\nprintln(2)\ncase _, _ = <-c(3):\n}"), "main [1|3|2|]"},
		{said + body("switch i(3) {\ncase i(1), i(2):\nprintln(11)\ncase i(3), i(4):\nprintln(12)\ncase i(5):\n}"), "main [3|1|2|3|12|]"},
		{said + body("switch i(9) {\ndefault:\nprintln(10)\ncase i(1), i(2):\ncase i(3):\n}"), "main [9|1|2|3|10|]"},
		{said + body("switch {\ncase b(1, false), b(2, true), b(3, true):\nprintln(11)\ncase b(4, true):\nprintln(12)\n}"), "main [1|2|11|]"},
		{said + body("for x := i(1); b(2, x < 3); x = x + i(3) { println(x) }"), "main [1|2|1|3|2|]"},
		{said + body("g := make(WaitGroup); g.Add(i(1) + i(2)); g.Done(); g.Done(); g.Done(); g.Wait(); println(3)"), "main [1|2|3|]"},
	})
}

func TestStatements(t *testing.T) {
	wantRows(t, roomy(), 100, []row{
		{body(""), "main []"},
		{body("{\n}"), "main []"},
		{body("{\n{\n}\n}\nif true {\n}\nfor false {\n}\nswitch {\n}\nswitch 1 {\n}\nprintln()"), "main [|]"},
		{body("var x int; var y bool; println(x, y); x = 3; y = true; println(x, y)"), "main [0 false|3 true|]"},
		{body("var x int = 4; x++; x++; x--; println(x)"), "main [5|]"},
		{body("x := 1; { x := x + 1; x++; println(x) }; println(x)"), "main [3|1|]"},
		{body("for i := 0; i < 2; i++ { var x int; println(x); x = 7; x++; _ = x }"), "main [0|0|]"},
		{body("x := 9223372036854775807; x++; println(x); x--; println(x)"), "main [-9223372036854775808|9223372036854775807|]"},
		{body("_ = 1; _ = make(chan int); println(2)"), "main [2|]"},
		{body("if 1 < 2 { println(1) }; if 2 < 1 { println(2) }; println(3)"), "main [1|3|]"},
		{body("if 1 < 2 { println(1) } else { println(2) }; if 2 < 1 { println(3) } else { println(4) }"), "main [1|4|]"},
		{body("for i := 0; i < 4; i++ { if i == 0 { println(\"a\") } else if i == 1 { println(\"b\") } else if i == 2 { println(\"c\") } else { println(\"d\") } }"), "main [a|b|c|d|]"},
		{body("if false { println(1) } else if false { println(2) }; println(3)"), "main [3|]"},
		{"func f(x int) int { if x == 0 { return 10 }; return 20 }\n" + body("f(0); println(f(0), f(1))"), "main [10 20|]"},
		{"func f(x int) { if x == 0 { println(0); return }; println(1) }\n" + body("f(0); f(1); return; println(5)"), "main [0|1|]"},
		{"func f(x int) int { if x < 2 { return x }; return f(x - 1) + f(x - 2) }\n" + body("println(f(6))"), "main [8|]"},
		{"func even(x int) bool { if x == 0 { return true }; return odd(x - 1) }\nfunc odd(x int) bool { if x == 0 { return false }; return even(x - 1) }\n" + body("println(even(5), odd(5), even(4))"), "main [false true true|]"},
		{"func f(a int, b int, c int, d int, e int, f int, g int, h int) int { return a*10000000 + b*1000000 + c*100000 + d*10000 + e*1000 + f*100 + g*10 + h }\n" + body("println(f(1, 2, 3, 4, 5, 6, 7, 8))"), "main [12345678|]"},
		{"func f(x int) { x = x + 1; println(x) }\n" + body("x := 1; f(x); println(x)"), "main [2|1|]"},
		{body("println(\"a\", \"b c\", 1, true, \"\", -2, false, \"\\n\")"), "main [a b c 1 true  -2 false ||]"},
		{"func f() int { println(1); return 1 }\n" + body("go f(); yield(); println(2)"), "main [1|2|]"},
	})
}

func TestLoops(t *testing.T) {
	filled := "c := make(chan int, 5); c <- 1; c <- 2; c <- 3; close(c)\n"
	wantRows(t, roomy(), 100, []row{
		{body("for i := 0; i < 3; i++ { println(i) }"), "main [0|1|2|]"},
		{body("i := 0; for i < 3 { println(i); i++ }"), "main [0|1|2|]"},
		{body("i := 0; for { if i == 3 { break }; println(i); i++ }; println(\"z\")"), "main [0|1|2|z|]"},
		{body("i := 5; for i = 0; i < 2; i++ { println(i) }; println(i)"), "main [0|1|2|]"},
		{body("i := 0; for ; i < 2; { i++ }; println(i)"), "main [2|]"},
		{body("i := 0; for ;; i++ { if i == 2 { break } }; println(i)"), "main [2|]"},
		{body("for i := 0; i < 5; i++ { if i == 1 { continue }; if i == 3 { break }; println(i) }"), "main [0|2|]"},
		{body("for i := 0; i < 3; i++ { for j := 0; j < 3; j++ { if j == i { continue }; if j == 2 { break }; println(i, j) } }"), "main [0 1|1 0|2 0|2 1|]"},
		{body("for i := 0; i < 4; i++ { switch i { case 1: continue; case 2: break; default: println(i) }; println(\"e\") }"), "main [0|e|e|3|e|]"},
		{body("for i := 0; i < 3; i++ { switch { case i == 1: for { break }; println(1); break; println(2) } }"), "main [1|]"},
		{body("c := make(chan int, 1); for i := 0; i < 4; i++ { select { case c <- i: continue; case x := <-c: if x == 2 { break }; println(x) }; println(\"e\") }"), "main [0|e|e|]"},
		{body(filled + "for range c { println(\"x\") }"), "main [x|x|x|]"},
		{body(filled + "for x := range c { println(x) }"), "main [1|2|3|]"},
		{body(filled + "x := 9; for x = range c { if x == 2 { break } }; println(x, len(c))"), "main [2 1|]"},
		{body(filled + "x := 9; for x = range c { }; println(x)"), "main [3|]"},
		{body(filled + "for x := range c { if x == 2 { continue }; println(x); x = 7; _ = x }"), "main [1|3|]"},
		{body(filled + "for x := range c { for y := range c { println(x, y) } }"), "main [1 2|1 3|]"},
		{body("c := make(chan int, 1); close(c); x := 9; for x = range c { }; println(x)"), "main [9|]"},
		{body("var c chan int; for range c { }"), "asleep 1.main@2:nilrecv []"},
		{"func f() int { for { for { return 1 } } }\n" + body("println(f())"), "main [1|]"},
		{"func f(c chan int) int { for x := range c { if x == 2 { return x } }; return 0 }\n" + body(filled+"println(f(c), f(c), len(c))"), "main [2 0 0|]"},
		{body("for c := make(chan int, 1); len(c) == 0; c <- 5 { println(cap(c)) }"), "main [1|]"},
		{body("for println(1); false; println(2) { }; for i := 0; i < 1; i++ { }; for yield(); ; { break }"), "main [1|]"},
	})
}

func TestSwitches(t *testing.T) {
	inAll := func(head, clauses string) string {
		return body("c := make(chan int); d := make(chan int); var e chan int\nfor i := 0; i < 4; i++ {\nswitch " + head + " {\n" + clauses + "\n}\n}\n_ = c; _ = d; _ = e")
	}
	wantRows(t, roomy(), 100, []row{
		{inAll("i", "case 0: println(\"a\")\ncase 1, 2: println(\"b\")"), "main [a|b|b|]"},
		{inAll("i", "default: println(\"d\")\ncase 0: println(\"a\")\ncase 1, 2: println(\"b\")"), "main [a|b|b|d|]"},
		{inAll("i", "case 0: println(\"a\")\ndefault: println(\"d\")\ncase 1, 2: println(\"b\")\ncase 2: println(\"never\")"), "main [a|b|b|d|]"},
		{inAll("i", "case 0: println(\"a\")\ncase 1, 2: println(\"b\")\ndefault: println(\"d\")"), "main [a|b|b|d|]"},
		{inAll("i", ""), "main []"},
		{inAll("i", "default: println(i)"), "main [0|1|2|3|]"},
		{inAll("", "case i == 0: println(\"a\")\ncase i < 2, i == 3: println(\"b\")"), "main [a|b|b|]"},
		{inAll("", "default: println(\"d\")\ncase i == 2: println(\"a\")"), "main [d|d|a|d|]"},
		{inAll("i == 2", "case true: println(\"t\")\ncase false: println(\"f\")"), "main [f|f|t|f|]"},
		{inAll("c", "case nil, d: println(\"n\")\ncase e: println(\"e\")\ncase c: println(\"c\")"), "main [c|c|c|c|]"},
		{inAll("e", "case c, d: println(\"n\")\ncase nil: println(\"e\")\ncase e: println(\"f\")"), "main [e|e|e|e|]"},
		{inAll("i", "case 0: x := i + 10; println(x)\ncase 1: x := true; println(x); break; println(5)\ncase 2:\ndefault: var x int; println(x)"), "main [10|true|0|]"},
		{inAll("i % 2", "case 0: switch i { case 0: println(\"z\"); break; println(1); default: println(\"y\") }; println(\"x\")\ncase 1: switch { default: break }; println(\"w\")"), "main [z|x|w|y|x|w|]"},
		{"func f(x int) int { switch x { case 1: return 10; case 2: return 20; default: return 30 } }\n" + body("println(f(1), f(2), f(3))"), "main [10 20 30|]"},
		{"func f(x int) int { switch { default: return 30; case x == 1: return 10 } }\n" + body("println(f(1), f(2))"), "main [10 30|]"},
	})
}

func TestSelects(t *testing.T) {
	wantRows(t, roomy(), 100, []row{
		{body("c := make(chan int, 1); select { case c <- 4: println(\"s\") }; println(<-c)"), "main [s|4|]"},
		{body("c := make(chan int, 1); c <- 4; select { case <-c: println(\"r\", len(c)) }"), "main [r 0|]"},
		{body("c := make(chan int, 1); c <- 4; select { case x := <-c: println(x) }"), "main [4|]"},
		{body("c := make(chan int, 1); c <- 4; select { case x, ok := <-c: println(x, ok) }; close(c); select { case x, ok := <-c: println(x, ok) }"), "main [4 true|0 false|]"},
		{body("c := make(chan int, 1); c <- 4; select { case _, ok := <-c: println(ok) }; c <- 5; select { case x, _ := <-c: println(x) }"), "main [true|5|]"},
		{body("x := 0; ok := false; c := make(chan int, 1); c <- 4; select { case x, ok = <-c: println(x, ok) }; println(x, ok); c <- 6; select { case x = <-c: }; println(x)"), "main [4 true|4 true|6|]"},
		{body("x := 7; ok := false; c := make(chan int, 1); c <- 4; select { case _, ok = <-c: }; println(x, ok); close(c); select { case x, _ = <-c: }; println(x, ok); select { case _ = <-c: }; select { case _, _ = <-c: }"), "main [7 true|0 true|]"},
		{body("b := false; c := make(chan bool, 2); c <- false; select { case b, b = <-c: }; println(b); close(c); b, b = <-c; println(b); d := make(chan bool, 1); d <- false; b, b = <-d; println(b)"), "main [true|false|true|]"},
		{body("c := make(chan int); select { case <-c: println(1); default: println(2) }; select { default: println(3) }; select { case c <- 1: default: }"), "main [2|3|]"},
		{body("c := make(chan int); select { case c <- 1: case <-c: }"), "asleep 1.main@2:select []"},
		{body("var c chan int; select { case c <- 1: case x := <-c: println(x) }"), "asleep 1.main@2:select []"},
		{body("c := make(chan int); close(c); select { case c <- 1: default: }"), "sendclosed []"},
		{"func f(c chan int, d chan int) { select { case x := <-c: d <- x + 1; case c <- 9: println(\"s\") } }\n" + body("c := make(chan int); d := make(chan int); go f(c, d); c <- 4; println(<-d); go f(c, d); println(<-c); yield()"), "main [5|s|9|]"},
		{"func f(c chan int) { close(c) }\n" + body("c := make(chan int); go f(c); select { case c <- 1: case x := <-c: println(x) }"), "main [0|]"},
		{"func f(c chan int) { close(c) }\n" + body("c := make(chan int); go f(c); select { case c <- 1: }"), "sendclosed []"},
		{"func f(c chan int) int { select { case x := <-c: return x; default: return 8 } }\n" + body("c := make(chan int, 1); println(f(c)); c <- 1; println(f(c))"), "main [8|1|]"},
		{"func f() int { select { } }\n" + body("go f(); yield(); println(1)"), "main 2.f@1:nocases [1|]"},
		{"func f(c chan int) int { select { case <-c: return 1; case c <- 1: for { } } }\n" + body("c := make(chan int); go f(c); yield(); close(c)"), "main []"},
		{body("a := make(chan int, 1); b := make(chan int, 1); for i := 0; i < 4; i++ { select { case a <- i: println(\"a\"); case <-a: println(\"b\"); case b <- i: println(\"c\"); case <-b: println(\"d\") } }"), "main [a|b|a|b|]"},
	})
}

// Who parks is told on the line that the model names, however the parts of a statement are spread over lines.
func TestLines(t *testing.T) {
	wantRows(t, roomy(), 100, []row{
		{"func main() {\nc := make(chan int)\nprintln(1,\n<-c)\n}", "asleep 1.main@4:recv []"},
		{"func main() {\nc := make(chan int)\nx :=\n<-c\nprintln(x)\n}", "asleep 1.main@4:recv []"},
		{"func main() {\nc := make(chan int)\nx, ok :=\n<-c\nprintln(x, ok)\n}", "asleep 1.main@4:recv []"},
		{"func main() {\nc := make(chan int)\nc <-\n1\n}", "asleep 1.main@3:send []"},
		{"func main() {\nvar c chan int\nc <-\n1\n}", "asleep 1.main@3:nilsend []"},
		{"func main() {\nc := make(chan int)\nfor range\nc {\n}\n}", "asleep 1.main@3:recv []"},
		{"func main() {\nc := make(chan int)\nselect {\ncase <-c:\ncase c <-\n1:\n}\n}", "asleep 1.main@3:select []"},
		{"func main() {\nm := make(Mutex)\nm.Lock()\nm.\nLock()\n}", "asleep 1.main@" + strconv.Itoa(methodLine(t)) + ":lock []"},
		{"func w(g WaitGroup) {\n\ng.Wait()\n}\nfunc main() {\ng := make(WaitGroup)\ng.Add(1)\ngo w(g)\nyield()\nm := make(Mutex)\nm.Lock()\nm.Lock()\n}", "asleep 1.main@12:lock 2.w@3:group []"},
		{"func f(c chan int) {\ng(c)\n}\nfunc g(c chan int) {\n<-c\n}\nfunc main() {\ngo f(nil)\nselect {\n}\n}", "asleep 1.main@9:nocases 2.f@5:nilrecv []"},
	})
}

// methodLine is the line of a Method whose name stands on a line of its own: parse says which that is.
func methodLine(t *testing.T) int {
	file := checked(t, "func main() {\nm := make(Mutex)\nm.Lock()\nm.\nLock()\n}")
	return file.Kids[0].Kids[0].Kids[2].Kids[0].Line
}

// A limit that is met is not passed.
func TestLimitsMet(t *testing.T) {
	src := "func f(n int) { if n > 0 { f(n - 1) } }\nfunc g() { select { } }\n" +
		body("f(2)\ngo g()\nyield()\ngo g()\nyield()\nm := make(Mutex)\nc := make(chan int)\nm.Lock()\nc = nil\n_ = c\nprintln(\"1234567\")")
	file := checked(t, src)
	p := made(t, file)
	enough := api.Limits{Gos: 3, Objects: 2, Depth: 4, Out: 8}
	for _, x := range []struct {
		less func(*api.Limits)
		want string
	}{
		{func(*api.Limits) {}, "main"},
		{func(l *api.Limits) { l.Gos-- }, "gos"},
		{func(l *api.Limits) { l.Objects-- }, "memory"},
		{func(l *api.Limits) { l.Depth-- }, "depth"},
		{func(l *api.Limits) { l.Out-- }, "output"},
	} {
		l := enough
		x.less(&l)
		o := played(t, file, p, setting{limits: l, pieces: []int{50}})
		if got := brief(o); !strings.HasPrefix(got, x.want) {
			t.Errorf("%+v: %s, wanted %s", l, got, x.want)
		}
	}
}
