package parse_test

import (
	"strings"
	"testing"

	"drowse/api"
)

func TestRowsOfTheChapter(t *testing.T) {
	wantTree(t, "func main() { x = 1 + 2 * 3 }", "File@0(Func main@0(Block@12(Assign 1@14(Name x@14, Binary +@20(Int 1@18, Binary *@24(Int 2@22, Int 3@26))))))")
	wantFault(t, "func f(", 7, api.ErrParseToken)
	wantFault(t, "func f() { 1 }", 13, api.ErrParseToken)
	wantFault(t, "func f() { x, y := 1 }", 19, api.ErrParseToken)
	wantFault(t, "func f() { f() = 1 }", 15, api.ErrParseToken)
	wantTree(t, "func f(c chan <-chan int) { }", "File@0(Func f@0(Param c <chan<- chan int>@7, Block@26))")
	wantTree(t, "func f() { for x = range c { } }", "File@0(Func f@0(Block@9(For = 3@11(Name x@15, Name c@25, Block@27))))")
}

func TestFileAndFunc(t *testing.T) {
	for _, src := range []string{"", ";", ";;", " ; ;\n;\n", "\n", "// a", "// a\n", "\r\n\t "} {
		wantTree(t, src, "File@0")
	}
	wantTree(t, "func f() { }", "File@0(Func f@0(Block@9))")
	wantTree(t, "\n;func f() { }", "File@0(Func f@2:2(Block@11:2))")
	wantTree(t, "func f(a int, b chan<- bool) <-chan int { }", "File@0(Func f <<-chan int>@0(Param a <int>@7, Param b <chan<- bool>@14, Block@40))")
	wantTree(t, "func f(a int,\n\ta (bool),\n\tLock Mutex) (WaitGroup) { }", "File@0(Func f <WaitGroup>@0(Param a <int>@7, Param a <bool>@15:2, Param Lock <Mutex>@26:3, Block@50:3))")
	wantTree(t, "func f() { }\n\nfunc f(m Mutex) WaitGroup { };; func h() { }", "File@0(Func f@0(Block@9), Func f <WaitGroup>@14:3(Param m <Mutex>@21:3, Block@40:3), Func h@46:3(Block@55:3))")
}

// inF is a source whose f has these statements, and the tree of that: they begin at the place 11.
func inF(t *testing.T, stmts, want string) {
	t.Helper()
	wantTree(t, "func f() { "+stmts+" }", "File@0(Func f@0(Block@9("+want+")))")
}

func TestSimpleStatements(t *testing.T) {
	inF(t, "var x int; var y chan int = nil", "Var x <int>@11, Var y <chan int>@22(Nil@39)")
	inF(t, "x := 1; x, _ := <-c; _, y := <-c", "Define 1@11(Name x@11, Int 1@16), Define 2@19(Name x@19, Name _@22, Unary <-@27(Name c@29)), Define 2@32(Name _@32, Name y@35, Unary <-@40(Name c@42))")
	inF(t, "x = 1; _ = <-c; x, y = <-c; _, _ = <-c", "Assign 1@11(Name x@11, Int 1@15), Assign 1@18(Name _@18, Unary <-@22(Name c@24)), Assign 2@27(Name x@27, Name y@30, Unary <-@34(Name c@36)), Assign 2@39(Name _@39, Name _@42, Unary <-@46(Name c@48))")
	inF(t, "x := (<-c); y = (a)", "Define 1@11(Name x@11, Unary <-@17(Name c@19)), Assign 1@23(Name y@23, Name a@28)")
	inF(t, "x++; y--", "Step 1@11(Name x@11), Step -1@16(Name y@16)")
	inF(t, "c <- 1; (c) <- (1)", "Send@13(Name c@11, Int 1@16), Send@23(Name c@20, Int 1@27)")
	inF(t, "<-c <- <-d; 1 <- -a", "Send@15(Unary <-@11(Name c@13), Unary <-@18(Name d@20)), Send@25(Int 1@23, Unary -@28(Name a@29))")
	inF(t, "g(); (g(1)); <-c; ((<-(c)))", "Do@11(Call g@11), Do@16(Call g@17(Int 1@19)), Do@24(Unary <-@24(Name c@26)), Do@29(Unary <-@31(Name c@34))")
	inF(t, "m.Lock(); (m.Lock()); (m).Lock()", "Do@11(Method Lock@12(Name m@11)), Do@21(Method Lock@23(Name m@22)), Do@33(Method Lock@36(Name m@34))")
	inF(t, "return; return a; { break; continue }", "Return@11, Return@19(Name a@26), Block@29(Break@31, Continue@38)")
	inF(t, "go g(); go g(1, (a))", "Go@11(Call g@14), Go@19(Call g@22(Int 1@24, Name a@28))")
}

func TestIfsAndFors(t *testing.T) {
	inF(t, "if a { }; if a { b() } else { }", "If@11(Name a@14, Block@16), If@21(Name a@24, Block@26(Do@28(Call b@28)), Block@39)")
	inF(t, "if a { } else if b { } else { c() }", "If@11(Name a@14, Block@16, If@25(Name b@28, Block@30, Block@39(Do@41(Call c@41))))")
	inF(t, "for { }; for a { g() }", "For@11(Block@15), For 1@20(Name a@24, Block@26(Do@28(Call g@28)))")
	inF(t, "for g() { }; for <-c { }; for (a) { }", "For 1@11(Call g@15, Block@19), For 1@24(Unary <-@28(Name c@30), Block@32), For 1@37(Name a@42, Block@45)")
	inF(t, "for ;; { }", "For 2@11(None@0:0, None@0:0, None@0:0, Block@18)")
	inF(t, "for ; a; { }", "For 2@11(None@0:0, Name a@17, None@0:0, Block@20)")
	inF(t, "for x := 0; x < 9; x++ { }", "For 2@11(Define 1@15(Name x@15, Int 0@20), Binary <@25(Name x@23, Int 9@27), Step 1@30(Name x@30), Block@34)")
	inF(t, "for x, _ := <-c;; _, _ = <-c { }", "For 2@11(Define 2@15(Name x@15, Name _@18, Unary <-@23(Name c@25)), None@0:0, Assign 2@29(Name _@29, Name _@32, Unary <-@36(Name c@38)), Block@40)")
	inF(t, "for x = 1;; _ = 2 { }", "For 2@11(Assign 1@15(Name x@15, Int 1@19), None@0:0, Assign 1@23(Name _@23, Int 2@27), Block@29)")
	inF(t, "for c <- 1; ; <-c { }", "For 2@11(Send@17(Name c@15, Int 1@20), None@0:0, Do@25(Unary <-@25(Name c@27)), Block@29)")
	inF(t, "for (g());; (m.Lock()) { }", "For 2@11(Do@15(Call g@16), None@0:0, Do@23(Method Lock@25(Name m@24)), Block@34)")
	inF(t, "for x++; a; c <- 1 { }", "For 2@11(Step 1@15(Name x@15), Name a@20, Send@25(Name c@23, Int 1@28), Block@30)")
	inF(t, "for range c { }; for x := range <-c { }", "For 3@11(None@0:0, Name c@21, Block@23), For := 3@28(Name x@32, Unary <-@43(Name c@45), Block@47)")
	inF(t, "for x = range (c) { x() }", "For = 3@11(Name x@15, Name c@26, Block@29(Do@31(Call x@31)))")
}

func TestSwitchesAndSelects(t *testing.T) {
	inF(t, "switch { }; switch a { }", "Switch@11, Switch 1@23(Name a@30)")
	inF(t, "switch a { case 1, (2): g(); default: }", "Switch 1@11(Name a@18, Case@22(Int 1@27, Int 2@31, Block@33(Do@35(Call g@35))), Case 1@40(Block@47))")
	inF(t, "switch { default: g() case a: break; continue case b: }", "Switch@11(Case 1@20(Block@27(Do@29(Call g@29))), Case@33(Name a@38, Block@39(Break@41, Continue@48)), Case@57(Name b@62, Block@63))")
	inF(t, "select { }; select { default: ; }", "Select@11, Select@23(Arm 1@32(Block@39))")
	inF(t, "select { case c <- 1: g(); case (<-c): default: }", "Select@11(Arm@20(Send@27(Name c@25, Int 1@30), Block@31(Do@33(Call g@33))), Arm@38(Do@43(Unary <-@44(Name c@46)), Block@48), Arm 1@50(Block@57))")
	inF(t, "select { case <-c: case x := <-c: case _ = <-c: case x = <-c: }", "Select@11(Arm@20(Do@25(Unary <-@25(Name c@27)), Block@28), Arm@30(Define 1@35(Name x@35, Unary <-@40(Name c@42)), Block@43), Arm@45(Assign 1@50(Name _@50, Unary <-@54(Name c@56)), Block@57), Arm@59(Assign 1@64(Name x@64, Unary <-@68(Name c@70)), Block@71))")
	inF(t, "select { case x, _ := <-c: case _, _ = <-c: case <-c <- 1: }", "Select@11(Arm@20(Define 2@25(Name x@25, Name _@28, Unary <-@33(Name c@35)), Block@36), Arm@38(Assign 2@43(Name _@43, Name _@46, Unary <-@50(Name c@52)), Block@53), Arm@55(Send@64(Unary <-@60(Name c@62), Int 1@67), Block@68))")
}

func TestExpressions(t *testing.T) {
	inF(t, "return (1) + 22 * (a - true)", "Return@11(Binary +@22(Int 1@19, Binary *@27(Int 22@24, Binary -@32(Name a@30, Bool 1@34))))")
	inF(t, "return -1 + !false * +(nil) - <-<-c", "Return@11(Binary -@39(Binary +@21(Unary -@18(Int 1@19), Binary *@30(Unary !@23(Bool 0@24), Unary +@32(Nil@34))), Unary <-@41(Unary <-@43(Name c@45))))")
	inF(t, "return g(a, (b), 3).Lock(1).Add((2), 3)", "Return@11(Method Add@38(Method Lock@30(Call g@18(Name a@20, Name b@24, Int 3@28), Int 1@36), Int 2@44, Int 3@48))")
	inF(t, "return -m.Wait() + (<-c).Done()", "Return@11(Binary +@28(Unary -@18(Method Wait@20(Name m@19)), Method Done@35(Unary <-@31(Name c@33))))")
	inF(t, "return 1.Unlock() == (a).Add() || (a + b).Add()", "Return@11(Binary ||@42(Binary ==@29(Method Unlock@19(Int 1@18), Method Add@35(Name a@33)), Method Add@52(Binary +@48(Name a@46, Name b@50))))")
	inF(t, "println(); println(\"a(\", 1, \"\", -a)", "Do@11(Call println@11), Do@22(Call println@22(Text a(@30, Int 1@36, Text @39, Unary -@43(Name a@44)))")
	inF(t, "close(c); yield(); return len(c) + cap(c, 1)", "Do@11(Call close@11(Name c@17)), Do@21(Call yield@21), Return@30(Binary +@44(Call len@37(Name c@41), Call cap@46(Name c@50, Int 1@53)))")
	inF(t, "return make(Mutex); return make(chan (int), 3 + 4)", "Return@11(Make <Mutex>@18), Return@31(Make <chan int>@38(Binary +@57(Int 3@55, Int 4@59)))")
	inF(t, "make(Mutex).Lock()", "Do@11(Method Lock@22(Make <Mutex>@11))")
	inF(t, "return 9223372036854775807 - Lock(Lock)", "Return@11(Binary -@38(Int 9223372036854775807@18, Call Lock@40(Name Lock@45)))")
}

func TestLines(t *testing.T) {
	wantTree(t, "func f(\n) {\n\tfor ;\n\t; {\n\t\tx = a +\n\t\t\tb\n\t\tm.\n\t\t\tLock()\n\t}\n\tselect {\n\tcase c <-\n\t\t1:\n\t\t// a remark\n\tcase (\n\t\t<-c):\n\t}\n}\n",
		"File@0(Func f@0(Block@10:2(For 2@13:3(None@0:0, None@0:0, None@0:0, Block@22:4(Assign 1@26:5(Name x@26:5, Binary +@32:5(Name a@30:5, Name b@37:6)), Do@41:7(Method Lock@42:7(Name m@41:7)))), Select@58:10(Arm@68:11(Send@75:11(Name c@73:11, Int 1@80:12), Block@81:12), Arm@98:14(Do@103:14(Unary <-@107:15(Name c@109:15)), Block@111:15)))))")
	wantTree(t, "func\nf() {\n(\ng()); if\na.\nLock() {\n} else\n{\n}\n}", "File@0(Func f@0(Block@9:2(Do@11:3(Call g@13:4), If@19:4(Method Lock@23:5(Name a@22:5), Block@32:6, Block@41:8))))")
}

func TestSemicolons(t *testing.T) {
	for _, same := range [][2]string{
		{"func f() { a() }", "func f() { a(); }"},
		{"func f() { a(); b() }", "func f() {\n;; a()\n\n;b();;\n;}\n"},
		{"func f() { }; func g() { }", "\n;func f() { ; };;\n\n;func g() { ;; }\n;\n"},
		{"func f() { switch a { case 1: a() default: b() } }", "func f() {\nswitch a {\ncase 1:\n;a()\n;default:\n;;b();\n}\n}"},
		{"func f() { select { case <-c: a() default: b() } }", "func f() {\nselect {\ncase <-c:\n;a()\n;default:\n;;b();\n}\n}"},
		{"func f() { for x := 1; x < 2; { } }", "func f() { for x := 1\nx < 2\n{ } }"},
		{"func f() { for a(); b(); c() { } }", "func f() { for a()\nb()\nc() { } }"},
		{"func f() { if a { } ; b() }", "func f() { if a {\n}\nb()\n}"},
	} {
		wantSame(t, same[0], same[1])
	}
}

func TestDefaults(t *testing.T) {
	for _, src := range []string{
		"switch {\n\tdefault:\n\t}", "switch a {\n\tdefault:\n\tcase b:\n\t}", "switch a {\n\tcase b:\n\tdefault:\n\t}", "switch a {\n\tcase b:\n\tdefault:\n\tcase c, d:\n\t}",
		"select {\n\tdefault:\n\t}", "select {\n\tdefault:\n\tcase <-c:\n\t}", "select {\n\tcase <-c:\n\tdefault:\n\t}", "select {\n\tcase <-c:\n\tdefault:\n\tcase c <- a:\n\t}",
		"switch {\n\tdefault:\n\t\tswitch {\n\t\tdefault:\n\t\t\tselect {\n\t\t\tdefault:\n\t\t\t}\n\t\t}\n\tcase a:\n\t}",
	} {
		wantText(t, "func f() {\n\t"+src+"\n}\n", "func f() {\n\t"+src+"\n}\n")
	}
}

// bindingSigns are the signs between two expressions, those that bind least first.
func bindingSigns() [][]string {
	return [][]string{{"||"}, {"&&"}, {"==", "!=", "<", "<=", ">", ">="}, {"+", "-"}, {"*", "/", "%"}}
}

// eachSign calls do with each binding sign, and how tight it binds.
func eachSign(do func(sign string, tight int)) {
	for tight, signs := range bindingSigns() {
		for _, sign := range signs {
			do(sign, tight)
		}
	}
}

// wide is a sign with a blank behind it, if it has one byte alone: so all of them take the same room.
func wide(sign string) string { return (sign + " ")[:2] }

func TestEachPairOfBindingSigns(t *testing.T) {
	eachSign(func(one string, oneTight int) {
		eachSign(func(other string, otherTight int) {
			want := "Return@11(Binary " + other + "@25(Binary " + one + "@20(Name a@18, Name b@23), Name c@28))"
			if otherTight > oneTight {
				want = "Return@11(Binary " + one + "@20(Name a@18, Binary " + other + "@25(Name b@23, Name c@28)))"
			}
			inF(t, "return a "+wide(one)+" b "+wide(other)+" c", want)
			inF(t, "return (a "+wide(one)+" b) "+wide(other)+" c", "Return@11(Binary "+other+"@27(Binary "+one+"@21(Name a@19, Name b@24), Name c@30))")
			inF(t, "return a "+wide(one)+" (b "+wide(other)+" c)", "Return@11(Binary "+one+"@20(Name a@18, Binary "+other+"@26(Name b@24, Name c@29)))")
		})
	})
}

func TestEachUnaryWithEachBindingSign(t *testing.T) {
	for _, sign := range []string{"+", "-", "!", "<-"} {
		for _, inner := range []string{"+", "-", "!", "<-"} {
			inF(t, "return "+wide(sign)+" "+wide(inner)+" a", "Return@11(Unary "+sign+"@18(Unary "+inner+"@21(Name a@24)))")
			inF(t, "return "+wide(sign)+" ("+wide(inner)+" a)", "Return@11(Unary "+sign+"@18(Unary "+inner+"@22(Name a@25)))")
		}
		eachSign(func(between string, _ int) {
			inF(t, "return "+wide(sign)+" a "+wide(between)+" "+wide(sign)+" b", "Return@11(Binary "+between+"@23(Unary "+sign+"@18(Name a@21), Unary "+sign+"@26(Name b@29)))")
			inF(t, "return "+wide(sign)+"(a "+wide(between)+" b)", "Return@11(Unary "+sign+"@18(Binary "+between+"@23(Name a@21, Name b@26)))")
		})
		inF(t, "return "+wide(sign)+" a.Lock().Add()", "Return@11(Unary "+sign+"@18(Method Add@29(Method Lock@22(Name a@21))))")
	}
}

func TestTypes(t *testing.T) {
	for _, c := range [][2]string{
		{"int", "int"}, {"bool", "bool"}, {"Mutex", "Mutex"}, {"WaitGroup", "WaitGroup"}, {"(int)", "int"}, {"(((bool)))", "bool"},
		{"chan int", "chan int"}, {"chan  int", "chan int"}, {"chan (int)", "chan int"}, {"(chan(int))", "chan int"}, {"chan\nint", "chan int"},
		{"chan<- int", "chan<- int"}, {"chan <- int", "chan<- int"}, {"chan<-int", "chan<- int"}, {"chan<-(int)", "chan<- int"}, {"chan <- chan <- bool", "chan<- chan<- bool"},
		{"<-chan int", "<-chan int"}, {"<- chan int", "<-chan int"}, {"<-\nchan(int)", "<-chan int"}, {"(<-chan Mutex)", "<-chan Mutex"},
		{"chan chan int", "chan chan int"}, {"chan (chan int)", "chan chan int"},
		{"chan <-chan int", "chan<- chan int"}, {"chan (<-chan int)", "chan (<-chan int)"}, {"chan ((<-chan int))", "chan (<-chan int)"}, {"chan<- (chan int)", "chan<- chan int"},
		{"chan <- <- chan int", "chan<- <-chan int"}, {"chan<- (<-chan int)", "chan<- <-chan int"}, {"chan <- chan <- chan int", "chan<- chan<- chan int"},
		{"<-chan <-chan int", "<-chan <-chan int"}, {"<-chan (<-chan int)", "<-chan <-chan int"}, {"<-chan chan<- int", "<-chan chan<- int"}, {"<-chan chan <-chan int", "<-chan chan<- chan int"}, {"<-chan chan (<-chan int)", "<-chan chan (<-chan int)"},
		{"chan chan <-chan int", "chan chan<- chan int"}, {"chan chan (<-chan chan (<-chan int))", "chan chan (<-chan chan (<-chan int))"}, {"chan (<-chan (<-chan WaitGroup))", "chan (<-chan <-chan WaitGroup)"},
	} {
		for _, form := range [][2]string{
			{"func f(p TYPE) { }", "func f(p TYPE) {\n}\n"}, {"func f(p TYPE, q TYPE) { }", "func f(p TYPE, q TYPE) {\n}\n"}, {"func f() TYPE { }", "func f() TYPE {\n}\n"},
			{"func f() { var x TYPE }", "func f() {\n\tvar x TYPE\n}\n"}, {"func f() { var x TYPE = a }", "func f() {\n\tvar x TYPE = a\n}\n"},
			{"func f() { x = make(TYPE) }", "func f() {\n\tx = make(TYPE)\n}\n"}, {"func f() { x = make(TYPE, 1) }", "func f() {\n\tx = make(TYPE, 1)\n}\n"},
		} {
			wantText(t, strings.ReplaceAll(form[0], "TYPE", c[0]), strings.ReplaceAll(form[1], "TYPE", c[1]))
		}
	}
}

// lists are all lists of kids in a tree, each with the room behind its end.
func lists(n api.Node) [][]api.Node {
	l := [][]api.Node{n.Kids[:cap(n.Kids)]}
	for _, kid := range n.Kids {
		l = append(l, lists(kid)...)
	}
	return l
}

func TestNewMemory(t *testing.T) {
	src := allForms()
	one, fault := parsed(t, src)
	other, again := parsed(t, src)
	if fault != nil || again != nil || !whole(one, other) {
		t.Fatalf("P2: two answers to one source: %v, %v", fault, again)
	}
	owned := map[*api.Node]int{}
	for i, l := range append(lists(one), lists(other)...) {
		for j := range l {
			if at, ok := owned[&l[j]]; ok {
				t.Fatalf("the lists %d and %d share memory", at, i)
			}
			owned[&l[j]] = i
		}
	}
}
