package tree_test

import (
	"math/rand"
	"strings"
	"testing"

	"drowse/api"
	"drowse/tree"
)

// source is the same row of numbers in each run.
func source() *rand.Rand { return rand.New(rand.NewSource(5)) }

func node(k api.NodeKind, kids ...api.Node) api.Node { return api.Node{Kind: k, Kids: kids} }

func texted(k api.NodeKind, text string, kids ...api.Node) api.Node {
	return api.Node{Kind: k, Text: text, Kids: kids}
}

func counted(k api.NodeKind, n int64, kids ...api.Node) api.Node {
	return api.Node{Kind: k, N: n, Kids: kids}
}

func none() api.Node { return api.Node{} }

func name(s string) api.Node { return texted(api.NodeName, s) }

func number(n int64) api.Node { return counted(api.NodeInt, n) }

func yes() api.Node { return counted(api.NodeBool, 1) }

func no() api.Node { return counted(api.NodeBool, 0) }

func null() api.Node { return node(api.NodeNil) }

func text(s string) api.Node { return texted(api.NodeText, s) }

func unary(sign string, of api.Node) api.Node { return texted(api.NodeUnary, sign, of) }

func receive(of api.Node) api.Node { return unary("<-", of) }

func binary(left api.Node, sign string, right api.Node) api.Node {
	return texted(api.NodeBinary, sign, left, right)
}

func call(f string, args ...api.Node) api.Node { return texted(api.NodeCall, f, args...) }

func making(t string, kids ...api.Node) api.Node {
	return api.Node{Kind: api.NodeMake, Type: t, Kids: kids}
}

// method is a call of a method: of the first one of all.
func method(m string, all ...api.Node) api.Node { return texted(api.NodeMethod, m, all...) }

func block(stmts ...api.Node) api.Node { return node(api.NodeBlock, stmts...) }

func variable(x, t string, kids ...api.Node) api.Node {
	return api.Node{Kind: api.NodeVar, Text: x, Type: t, Kids: kids}
}

// define and assign have one kid more than targets.
func define(kids ...api.Node) api.Node {
	return counted(api.NodeDefine, int64(len(kids)-1), kids...)
}

func assign(kids ...api.Node) api.Node {
	return counted(api.NodeAssign, int64(len(kids)-1), kids...)
}

func step(by int64, x string) api.Node { return counted(api.NodeStep, by, name(x)) }

func send(c, v api.Node) api.Node { return node(api.NodeSend, c, v) }

func do(e api.Node) api.Node { return node(api.NodeDo, e) }

func choice(kids ...api.Node) api.Node { return node(api.NodeIf, kids...) }

func loop(n int64, kids ...api.Node) api.Node { return counted(api.NodeFor, n, kids...) }

func over(sign string, kids ...api.Node) api.Node {
	return api.Node{Kind: api.NodeFor, N: 3, Text: sign, Kids: kids}
}

func cases(kids ...api.Node) api.Node { return counted(api.NodeSwitch, 0, kids...) }

func casesOf(kids ...api.Node) api.Node { return counted(api.NodeSwitch, 1, kids...) }

func one(kids ...api.Node) api.Node { return node(api.NodeCase, kids...) }

func other(kids ...api.Node) api.Node { return counted(api.NodeCase, 1, kids...) }

func arms(kids ...api.Node) api.Node { return node(api.NodeSelect, kids...) }

func arm(kids ...api.Node) api.Node { return node(api.NodeArm, kids...) }

func otherArm(kids ...api.Node) api.Node { return counted(api.NodeArm, 1, kids...) }

func start(c api.Node) api.Node { return node(api.NodeGo, c) }

func result(kids ...api.Node) api.Node { return node(api.NodeReturn, kids...) }

func leave() api.Node { return node(api.NodeBreak) }

func again() api.Node { return node(api.NodeContinue) }

func param(x, t string) api.Node { return api.Node{Kind: api.NodeParam, Text: x, Type: t} }

func function(f, t string, kids ...api.Node) api.Node {
	return api.Node{Kind: api.NodeFunc, Text: f, Type: t, Kids: kids}
}

func file(funcs ...api.Node) api.Node { return node(api.NodeFile, funcs...) }

// inMain is the file whose main has these statements.
func inMain(stmts ...api.Node) api.Node { return file(function("main", "", block(stmts...))) }

// around is n with that many Unary `!` around it.
func around(n api.Node, times int) api.Node {
	for range times {
		n = unary("!", n)
	}
	return n
}

// copied is a node in memory of its own; its lists have no room behind them.
func copied(n api.Node) api.Node {
	kids := make([]api.Node, len(n.Kids))
	for i, kid := range n.Kids {
		kids[i] = copied(kid)
	}
	n.Kids = kids
	return n
}

// everyKind is each kind, and some that are none.
func everyKind() []api.NodeKind {
	l := []api.NodeKind{-1 << 31, -2, 1000, 1<<31 - 1}
	for k := api.NodeNone - 1; k <= api.NodeMethod+2; k++ {
		l = append(l, k)
	}
	return l
}

// sample is a right statement or expression, and how it is written in a main.
type sample struct {
	n    api.Node
	text string
}

// expressions are right ones, each kind in each form.
func expressions() []sample {
	a, b, c := name("a"), name("b"), name("c")
	l := []sample{
		{a, "a"}, {name("__"), "__"}, {name("x1"), "x1"}, {name("Lock"), "Lock"}, {name(strings.Repeat("n", 30)), strings.Repeat("n", 30)},
		{number(0), "0"}, {number(7), "7"}, {number(9223372036854775807), "9223372036854775807"},
		{yes(), "true"}, {no(), "false"}, {null(), "nil"},
		{unary("+", a), "+a"}, {unary("-", a), "-a"}, {unary("!", a), "!a"}, {receive(a), "<-a"},
		{unary("-", number(1)), "-1"}, {unary("-", call("f")), "-f()"}, {receive(making("chan int")), "<-make(chan int)"}, {receive(method("Wait", a)), "<-a.Wait()"},
		{call("f"), "f()"}, {call("f", a), "f(a)"}, {call("f", a, number(1), yes()), "f(a, 1, true)"}, {call("_f", call("g", a), binary(a, "+", b)), "_f(g(a), a + b)"},
		{call("f", unary("-", a), receive(c)), "f(-a, <-c)"},
		{call("len"), "len()"}, {call("len", a), "len(a)"}, {call("cap", a, b), "cap(a, b)"}, {call("close", a), "close(a)"}, {call("yield"), "yield()"}, {call("yield", a), "yield(a)"},
		{call("println"), "println()"}, {call("println", a), "println(a)"}, {call("println", text("")), `println("")`},
		{call("println", text("a\n\"\t\\"), a, text("\x00\xff"), text("é")), "println(\"a\\n\\\"\\t\\\\\", a, \"\x00\xff\", \"é\")"},
		{making("int"), "make(int)"}, {making("Mutex"), "make(Mutex)"}, {making("chan int"), "make(chan int)"}, {making("chan (<-chan int)", number(3)), "make(chan (<-chan int), 3)"}, {making("WaitGroup", binary(a, "+", b)), "make(WaitGroup, a + b)"},
		{method("Lock", a), "a.Lock()"}, {method("Unlock", a), "a.Unlock()"}, {method("Add", a, number(2)), "a.Add(2)"}, {method("Done", a), "a.Done()"}, {method("Wait", a), "a.Wait()"},
		{method("Wait", a, b, c), "a.Wait(b, c)"}, {method("Lock", call("f", a)), "f(a).Lock()"}, {method("Lock", making("Mutex")), "make(Mutex).Lock()"}, {method("Lock", method("Add", a, b), c), "a.Add(b).Lock(c)"},
		{method("Add", a, unary("-", number(1)), binary(a, "+", b)), "a.Add(-1, a + b)"},
		{method("Done", number(1)), "1.Done()"}, {method("Done", yes()), "true.Done()"}, {method("Done", null()), "nil.Done()"},
		{method("Done", receive(c)), "(<-c).Done()"}, {method("Done", unary("-", a)), "(-a).Done()"}, {method("Done", unary("+", a)), "(+a).Done()"}, {method("Done", unary("!", a)), "(!a).Done()"}, {method("Done", binary(a, "*", b)), "(a * b).Done()"},
		{unary("-", unary("-", a)), "-(-a)"}, {unary("!", unary("!", a)), "!!a"}, {unary("-", receive(c)), "-<-c"},
		{binary(binary(a, "+", b), "*", c), "(a + b) * c"}, {binary(a, "-", binary(b, "-", c)), "a - (b - c)"},
		{call("f", binary(a, "||", b)), "f(a || b)"}, {unary("!", call("f", binary(a, "||", b))), "!f(a || b)"},
	}
	for _, sign := range binarySigns() {
		l = append(l, sample{binary(a, sign, b), "a " + sign + " b"})
	}
	return l
}

func binarySigns() []string {
	return []string{"||", "&&", "==", "!=", "<", "<=", ">", ">=", "+", "-", "*", "/", "%"}
}

// simples are right statements that can stand in a For's head; the Defines among them only at its start.
func simples() []sample {
	a, b, c, blank := name("a"), name("b"), name("c"), name("_")
	return []sample{
		{define(a, number(1)), "a := 1"}, {define(a, receive(c)), "a := <-c"}, {define(a, b, receive(c)), "a, b := <-c"}, {define(a, blank, receive(c)), "a, _ := <-c"}, {define(blank, b, receive(c)), "_, b := <-c"}, {define(a, a, receive(c)), "a, a := <-c"},
		{assign(a, number(1)), "a = 1"}, {assign(blank, b), "_ = b"}, {assign(a, receive(c)), "a = <-c"}, {assign(blank, receive(c)), "_ = <-c"},
		{assign(a, b, receive(c)), "a, b = <-c"}, {assign(a, blank, receive(c)), "a, _ = <-c"}, {assign(blank, b, receive(c)), "_, b = <-c"}, {assign(blank, blank, receive(c)), "_, _ = <-c"},
		{assign(a, binary(a, "+", b)), "a = a + b"},
		{step(1, "a"), "a++"}, {step(-1, "a"), "a--"},
		{send(c, a), "c <- a"}, {send(binary(a, "+", b), receive(c)), "a + b <- <-c"}, {send(receive(c), unary("-", a)), "<-c <- -a"},
		{do(call("f")), "f()"}, {do(call("println", text("a"), a)), `println("a", a)`}, {do(call("close", c)), "close(c)"}, {do(call("yield")), "yield()"},
		{do(method("Add", a, number(1))), "a.Add(1)"}, {do(method("Lock", binary(a, "+", b))), "(a + b).Lock()"},
		{do(receive(c)), "<-c"}, {do(receive(receive(c))), "<-<-c"}, {do(receive(binary(a, "+", b))), "<-(a + b)"},
	}
}

// plain are right statements on one line that are not in simples.
func plain() []sample {
	a, b := name("a"), name("b")
	return []sample{
		{variable("x", "int"), "var x int"}, {variable("x", "chan<- <-chan bool"), "var x chan<- <-chan bool"}, {variable("x", "Mutex", null()), "var x Mutex = nil"}, {variable("x", "int", binary(a, "+", b)), "var x int = a + b"},
		{result(), "return"}, {result(a), "return a"}, {result(unary("-", a)), "return -a"},
		{start(call("f")), "go f()"}, {start(call("f", a, binary(a, "*", b))), "go f(a, a * b)"},
		{leave(), "break"}, {again(), "continue"},
	}
}

// written joins lines, and sets all but the first one in by the main's tab.
func written(lines ...string) string { return strings.Join(lines, "\n\t") }

// branches are right Blocks and Ifs.
func branches() []sample {
	a, b, c, empty := name("a"), name("b"), name("c"), block()
	return []sample{
		{empty, written("{", "}")},
		{block(leave()), written("{", "\tbreak", "}")},
		{block(empty, leave(), block(again())), written("{", "\t{", "\t}", "\tbreak", "\t{", "\t\tcontinue", "\t}", "}")},
		{choice(a, empty), written("if a {", "}")},
		{choice(binary(a, "&&", b), block(leave(), again())), written("if a && b {", "\tbreak", "\tcontinue", "}")},
		{choice(a, empty, empty), written("if a {", "} else {", "}")},
		{choice(a, block(leave()), block(again())), written("if a {", "\tbreak", "} else {", "\tcontinue", "}")},
		{choice(a, empty, choice(b, empty)), written("if a {", "} else if b {", "}")},
		{choice(a, empty, choice(b, empty, choice(c, block(leave()), block(again())))), written("if a {", "} else if b {", "} else if c {", "\tbreak", "} else {", "\tcontinue", "}")},
		{choice(a, empty, block(choice(b, empty, empty))), written("if a {", "} else {", "\tif b {", "\t} else {", "\t}", "}")},
		{choice(a, block(choice(b, empty, block(leave())))), written("if a {", "\tif b {", "\t} else {", "\t\tbreak", "\t}", "}")},
	}
}

// loops are right Fors.
func loops() []sample {
	a, c, empty := name("a"), name("c"), block()
	l := []sample{
		{loop(0, empty), written("for {", "}")}, {loop(0, block(leave())), written("for {", "\tbreak", "}")},
		{loop(1, a, empty), written("for a {", "}")}, {loop(1, binary(a, "<", number(3)), block(loop(0, empty))), written("for a < 3 {", "\tfor {", "\t}", "}")},
		{loop(2, none(), none(), none(), empty), written("for ;; {", "}")},
		{loop(2, none(), a, none(), empty), written("for ; a; {", "}")},
		{loop(2, none(), none(), step(1, "a"), empty), written("for ;; a++ {", "}")},
		{loop(2, define(a, number(0)), binary(a, "<", number(9)), step(1, "a"), block(again())), written("for a := 0; a < 9; a++ {", "\tcontinue", "}")},
		{over("", none(), c, empty), written("for range c {", "}")}, {over(":=", a, c, empty), written("for a := range c {", "}")}, {over("=", a, receive(c), block(leave())), written("for a = range <-c {", "\tbreak", "}")},
	}
	for _, s := range simples() {
		l = append(l, sample{loop(2, s.n, none(), none(), empty), written("for "+s.text+";; {", "}")})
		if s.n.Kind != api.NodeDefine {
			l = append(l, sample{loop(2, none(), none(), s.n, empty), written("for ;; "+s.text+" {", "}")})
		}
	}
	return l
}

// switches are right Switches and Selects.
func switches() []sample {
	a, b, c, empty, blank := name("a"), name("b"), name("c"), block(), name("_")
	return []sample{
		{cases(), written("switch {", "}")}, {casesOf(a), written("switch a {", "}")},
		{cases(other(empty)), written("switch {", "default:", "}")},
		{casesOf(a, one(number(1), empty)), written("switch a {", "case 1:", "}")},
		{casesOf(binary(a, "+", b), one(number(1), unary("-", number(2)), binary(a, "*", b), block(leave())), other(block(again(), leave())), one(c, empty)), written("switch a + b {", "case 1, -2, a * b:", "\tbreak", "default:", "\tcontinue", "\tbreak", "case c:", "}")},
		{cases(one(a, block(block(leave()), cases(one(b, block(again())))))), written("switch {", "case a:", "\t{", "\t\tbreak", "\t}", "\tswitch {", "\tcase b:", "\t\tcontinue", "\t}", "}")},
		{arms(), written("select {", "}")}, {arms(otherArm(empty)), written("select {", "default:", "}")},
		{arms(arm(send(c, a), empty)), written("select {", "case c <- a:", "}")},
		{arms(arm(do(receive(c)), block(leave()))), written("select {", "case <-c:", "\tbreak", "}")},
		{arms(arm(define(a, receive(c)), empty), arm(define(a, blank, receive(c)), empty), arm(define(blank, b, receive(c)), empty)), written("select {", "case a := <-c:", "case a, _ := <-c:", "case _, b := <-c:", "}")},
		{arms(arm(assign(a, receive(c)), empty), arm(assign(blank, receive(c)), empty), otherArm(block(again())), arm(assign(blank, blank, receive(c)), empty)), written("select {", "case a = <-c:", "case _ = <-c:", "default:", "\tcontinue", "case _, _ = <-c:", "}")},
		{arms(arm(do(receive(c)), block(arms(otherArm(block(choice(a, block(leave())))))))), written("select {", "case <-c:", "\tselect {", "\tdefault:", "\t\tif a {", "\t\t\tbreak", "\t\t}", "\t}", "}")},
	}
}

// statements are right ones, each kind in each form.
func statements() []sample {
	var l []sample
	for _, more := range [][]sample{simples(), plain(), branches(), loops(), switches()} {
		l = append(l, more...)
	}
	return l
}

// files are right files and how they are written.
func files() []sample {
	empty := block()
	l := []sample{
		{file(), ""},
		{inMain(), "func main() {\n}\n"},
		{file(function("f", "int", empty)), "func f() int {\n}\n"},
		{file(function("f", "", param("p", "int"), empty)), "func f(p int) {\n}\n"},
		{file(function("f", "chan (<-chan int)", param("p", "chan<- int"), param("q", "Mutex"), param("p", "WaitGroup"), block(result(name("p"))))), "func f(p chan<- int, q Mutex, p WaitGroup) chan (<-chan int) {\n\treturn p\n}\n"},
		{file(function("f", "", empty), function("f", "bool", empty), function("main", "", block(leave()))), "func f() {\n}\nfunc f() bool {\n}\nfunc main() {\n\tbreak\n}\n"},
	}
	for _, s := range statements() {
		l = append(l, sample{inMain(s.n), "func main() {\n\t" + s.text + "\n}\n"})
	}
	for _, s := range expressions() {
		l = append(l, sample{inMain(result(s.n)), "func main() {\n\treturn " + s.text + "\n}\n"})
	}
	return l
}

func wantText(t *testing.T, n api.Node, want string) {
	t.Helper()
	if e := tree.Right(n); e != api.OK {
		t.Errorf("Right of %q: %d", want, e)
	}
	if s, e := tree.Text(n); s != want || e != api.OK {
		t.Errorf("Text: %q, %d, not %q", s, e, want)
	}
}

// wantWrong: Right and Text refuse n.
func wantWrong(t *testing.T, what string, n api.Node, want api.Errno) {
	t.Helper()
	if e := tree.Right(n); e != want {
		t.Errorf("Right of %s: %d, not %d", what, e, want)
	}
	if s, e := tree.Text(n); s != "" || e != want {
		t.Errorf("Text of %s: %q, %d, not %d", what, s, e, want)
	}
}
