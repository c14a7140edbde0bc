package tree_test

import (
	"slices"
	"strings"
	"testing"

	"drowse/api"
	"drowse/lex"
	"drowse/tree"
)

func TestTextTableOfTheChapter(t *testing.T) {
	a, b, c := name("a"), name("b"), name("c")
	wantText(t, inMain(result(binary(binary(a, "+", b), "*", c)), result(binary(a, "-", binary(b, "-", c)))), "func main() {\n\treturn (a + b) * c\n\treturn a - (b - c)\n}\n")
	wantText(t, inMain(result(unary("-", unary("-", a))), result(unary("!", unary("!", a))), result(unary("-", receive(c)))), "func main() {\n\treturn -(-a)\n\treturn !!a\n\treturn -<-c\n}\n")
	wantText(t, inMain(loop(2, none(), none(), none(), block())), "func main() {\n\tfor ;; {\n\t}\n}\n")
}

func TestTextOfEachForm(t *testing.T) {
	for _, f := range files() {
		wantText(t, f.n, f.text)
	}
}

// deeper sets all lines of a statement that is written in main one tab further in.
func deeper(text string) string { return "\t" + strings.ReplaceAll(text, "\n", "\n\t") }

func TestTextOfEachStatementInEachBlock(t *testing.T) {
	a, c := name("a"), name("c")
	for _, s := range statements() {
		in := block(s.n)
		for _, outer := range []sample{
			{in, "{"}, {choice(a, in), "if a {"}, {choice(a, block(), in), "if a {\n\t} else {"}, {loop(0, in), "for {"}, {loop(1, a, in), "for a {"}, {over("", none(), c, in), "for range c {"},
			{loop(2, none(), none(), none(), in), "for ;; {"}, {cases(one(a, in)), "switch {\n\tcase a:"}, {casesOf(a, other(in)), "switch a {\n\tdefault:"},
			{arms(arm(do(receive(c)), in)), "select {\n\tcase <-c:"}, {arms(otherArm(in)), "select {\n\tdefault:"},
		} {
			wantText(t, inMain(outer.n, leave()), "func main() {\n\t"+outer.text+"\n\t"+deeper(s.text)+"\n\t}\n\tbreak\n}\n")
		}
	}
}

func TestTextOfEachExpressionInEachPlace(t *testing.T) {
	a, c := name("a"), name("c")
	for _, e := range expressions() {
		for _, outer := range []struct {
			n           api.Node
			ahead, back string
		}{
			{variable("x", "int", e.n), "var x int = ", ""}, {define(a, e.n), "a := ", ""}, {assign(a, e.n), "a = ", ""}, {send(c, e.n), "c <- ", ""}, {send(e.n, a), "", " <- a"},
			{choice(e.n, block()), "if ", " {\n\t}"}, {loop(1, e.n, block()), "for ", " {\n\t}"}, {loop(2, none(), e.n, none(), block()), "for ; ", "; {\n\t}"}, {over(":=", a, e.n, block()), "for a := range ", " {\n\t}"},
			{casesOf(e.n), "switch ", " {\n\t}"}, {cases(one(a, e.n, c, block())), "switch {\n\tcase a, ", ", c:\n\t}"}, {arms(arm(send(c, e.n), block())), "select {\n\tcase c <- ", ":\n\t}"},
			{result(e.n), "return ", ""}, {start(call("f", a, e.n, c)), "go f(a, ", ", c)"}, {do(call("println", text("x"), e.n)), `println("x", `, ")"}, {do(method("Add", a, e.n)), "a.Add(", ")"}, {result(making("chan int", e.n)), "return make(chan int, ", ")"},
		} {
			wantText(t, inMain(outer.n), "func main() {\n\t"+outer.ahead+e.text+outer.back+"\n}\n")
		}
	}
}

// levels are the binding signs, those that bind least first.
func levels() [][]string {
	return [][]string{{"||"}, {"&&"}, {"==", "!=", "<", "<=", ">", ">="}, {"+", "-"}, {"*", "/", "%"}}
}

func level(sign string) int {
	return slices.IndexFunc(levels(), func(l []string) bool { return slices.Contains(l, sign) })
}

func wantExpression(t *testing.T, n api.Node, want string) {
	t.Helper()
	wantText(t, inMain(result(n)), "func main() {\n\treturn "+want+"\n}\n")
}

func TestBracketsOfEachPairOfBindingSigns(t *testing.T) {
	a, b, c := name("a"), name("b"), name("c")
	for _, outer := range binarySigns() {
		for _, inner := range binarySigns() {
			left, right := "a "+inner+" b", "b "+inner+" c"
			if level(outer) > level(inner) {
				left = "(" + left + ")"
			}
			if level(outer) >= level(inner) {
				right = "(" + right + ")"
			}
			wantExpression(t, binary(binary(a, inner, b), outer, c), left+" "+outer+" c")
			wantExpression(t, binary(a, outer, binary(b, inner, c)), "a "+outer+" "+right)
		}
	}
}

func TestBracketsOfEachUnary(t *testing.T) {
	a, b := name("a"), name("b")
	for _, outer := range []string{"+", "-", "!", "<-"} {
		for _, inner := range []string{"+", "-", "!", "<-"} {
			want := outer + inner + "a"
			if strings.Contains("+-", outer) && strings.Contains("+-", inner) {
				want = outer + "(" + inner + "a)"
			}
			wantExpression(t, unary(outer, unary(inner, a)), want)
		}
		for _, sign := range binarySigns() {
			wantExpression(t, unary(outer, binary(a, sign, b)), outer+"(a "+sign+" b)")
			wantExpression(t, binary(unary(outer, a), sign, b), outer+"a "+sign+" b")
			wantExpression(t, binary(a, sign, unary(outer, b)), "a "+sign+" "+outer+"b")
			wantExpression(t, method("Wait", binary(a, sign, b), binary(b, sign, a)), "(a "+sign+" b).Wait(b "+sign+" a)")
		}
		wantExpression(t, method("Lock", unary(outer, a), unary(outer, b)), "("+outer+"a).Lock("+outer+"b)")
		wantExpression(t, unary(outer, method("Lock", a)), outer+"a.Lock()")
		wantExpression(t, unary(outer, making("Mutex")), outer+"make(Mutex)")
		wantExpression(t, unary(outer, number(5)), outer+"5")
	}
	wantExpression(t, unary("-", unary("+", unary("-", a))), "-(+(-a))")
	wantExpression(t, receive(unary("-", unary("-", a))), "<--(-a)")
	wantExpression(t, unary("-", receive(unary("-", a))), "-<--a")
}

// reader reads an expression back from its tokens, by how tight the signs bind.
type reader struct {
	l  []api.Token
	at int
}

func (r *reader) next() api.Token {
	r.at++
	return r.l[r.at-1]
}

func (r *reader) is(text string) bool {
	k := r.l[r.at].Kind
	return (k == api.TokenSign || k == api.TokenWord) && r.l[r.at].Text == text
}

func (r *reader) binary(least int) api.Node {
	n := r.unary()
	for r.l[r.at].Kind == api.TokenSign && level(r.l[r.at].Text) >= least {
		sign := r.next().Text
		n = binary(n, sign, r.binary(level(sign)+1))
	}
	return n
}

func (r *reader) unary() api.Node {
	for _, sign := range []string{"+", "-", "!", "<-"} {
		if r.is(sign) {
			r.next()
			return unary(sign, r.unary())
		}
	}
	n := r.primary()
	for r.is(".") {
		r.next()
		m := r.next().Text
		n = method(m, append([]api.Node{n}, r.arguments()...)...)
	}
	return n
}

func (r *reader) primary() api.Node {
	t := r.next()
	switch {
	case t.Kind == api.TokenInt:
		return number(t.N)
	case t.Kind == api.TokenText:
		return text(t.Text)
	case t.Text == "true":
		return yes()
	case t.Text == "false":
		return no()
	case t.Text == "nil":
		return null()
	case t.Text == "(":
		n := r.binary(0)
		r.next()
		return n
	case t.Text == "make":
		return r.making()
	case r.is("("):
		return call(t.Text, r.arguments()...)
	}
	return name(t.Text)
}

// making reads a channel of ints or a mutex: no others are made here.
func (r *reader) making() api.Node {
	r.next()
	n := making("Mutex")
	if r.next().Text == "chan" {
		r.next()
		n = making("chan int")
	}
	if r.next().Text == "," {
		n.Kids = []api.Node{r.binary(0)}
		r.next()
	}
	return n
}

func (r *reader) arguments() []api.Node {
	r.next()
	var l []api.Node
	for !r.is(")") {
		if r.is(",") {
			r.next()
		}
		l = append(l, r.binary(0))
	}
	r.next()
	return l
}

// mixed is an expression of any form, at most that deep.
func mixed(r interface{ Intn(int) int }, depth int) api.Node {
	pick := r.Intn(12)
	if depth == 1 {
		pick %= 5
	}
	in := func() api.Node { return mixed(r, depth-1) }
	switch pick {
	case 0, 1:
		return name(string(rune('a' + r.Intn(26))))
	case 2:
		return number(int64(r.Intn(1000)))
	case 3:
		return counted(api.NodeBool, int64(r.Intn(2)))
	case 4:
		return null()
	case 5, 6:
		return unary([]string{"+", "-", "!", "<-"}[r.Intn(4)], in())
	case 7:
		return method([]string{"Lock", "Unlock", "Add", "Done", "Wait"}[r.Intn(5)], in(), in())
	case 8:
		return []api.Node{call("f", in(), in()), call("println", text("\"\n"), in()), making("Mutex"), making("chan int", in())}[r.Intn(4)]
	}
	return binary(in(), binarySigns()[r.Intn(13)], in())
}

func TestTextOfMixedExpressionsReadBack(t *testing.T) {
	r := source()
	for range 20000 {
		n := mixed(r, 1+r.Intn(7))
		s, e := tree.Text(inMain(result(n)))
		if e != api.OK {
			t.Fatalf("%+v: %d", n, e)
		}
		l, err := lex.Scan(s)
		if err != nil {
			t.Fatalf("%q: %v", s, err)
		}
		back := reader{l: l, at: 6}
		if got := back.binary(0); !tree.Same(got, n) || back.l[back.at].Text != "\n" {
			t.Fatalf("%q is read as another expression", s)
		}
	}
}

func TestTextWithoutMarks(t *testing.T) {
	for _, f := range files() {
		wantText(t, marked(f.n), f.text)
	}
}

func TestTextOfWideTrees(t *testing.T) {
	const times = 5000
	var stmts, funcs, args, clauses []api.Node
	for range times {
		stmts = append(stmts, leave())
		funcs = append(funcs, function("f", "", block()))
		args = append(args, number(1))
		clauses = append(clauses, one(yes(), block()))
	}
	wantText(t, inMain(stmts...), "func main() {\n"+strings.Repeat("\tbreak\n", times)+"}\n")
	wantText(t, file(funcs...), strings.Repeat("func f() {\n}\n", times))
	wantText(t, inMain(do(call("f", args...))), "func main() {\n\tf(1"+strings.Repeat(", 1", times-1)+")\n}\n")
	wantText(t, inMain(cases(clauses...)), "func main() {\n\tswitch {\n"+strings.Repeat("\tcase true:\n", times)+"\t}\n}\n")
}

func TestTextAtTheDeepest(t *testing.T) {
	inner := leave()
	for range 36 {
		inner = block(inner)
	}
	wantText(t, inMain(inner), "func main() {\n"+nest(36, "break")+"}\n")
}

// nest is a statement in that many Blocks in main, each line with its tabs and its end.
func nest(blocks int, s string) string {
	var ahead, behind string
	for i := range blocks {
		tabs := strings.Repeat("\t", i+1)
		ahead += tabs + "{\n"
		behind = tabs + "}\n" + behind
	}
	return ahead + strings.Repeat("\t", blocks+1) + s + "\n" + behind
}
