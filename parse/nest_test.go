package parse_test

import (
	"strconv"
	"strings"
	"testing"

	"drowse/api"
	"drowse/parse"
	"drowse/tree"
	"drowse/types"
)

// inBraces is the source of an f with a statement in so many Blocks more.
func inBraces(stmt string, braces int) string {
	return "func f(){" + strings.Repeat("{", braces) + stmt + strings.Repeat("}", braces) + "}"
}

// moved is a tree whose statements stand so many bytes further on.
func moved(n api.Node, by int) api.Node {
	kids := make([]api.Node, len(n.Kids))
	for i, kid := range n.Kids {
		kids[i] = moved(kid, by)
	}
	n.Kids = kids
	if n.Kind != api.NodeNone {
		n.At += by
	}
	return n
}

// TestDepthOfEachForm: in so many Blocks that it is just deep enough, and in one more and some more.
func TestDepthOfEachForm(t *testing.T) {
	for _, stmt := range forms() {
		n, fault := parsed(t, inBraces(stmt, 0))
		if fault != nil {
			t.Fatalf("%s: %v", stmt, fault)
		}
		// The File, the Func and its Block stand above.
		one := n.Kids[0].Kids[0].Kids[0]
		room := 40 - 3 - tree.Depth(one, 100)
		if got, fault := parsed(t, inBraces(stmt, room)); fault != nil || tree.Depth(got, 100) != 40 {
			t.Errorf("%s: %v", inBraces(stmt, room), fault)
		}
		for more := room + 1; more <= 37; more++ {
			wantFault(t, inBraces(stmt, more), tooDeepAt(moved(one, more), more+3), api.ErrParseNest)
		}
		wantFault(t, inBraces(stmt, 38), 9+37, api.ErrParseNest)
		wantFault(t, inBraces(stmt, 500), 9+37, api.ErrParseNest)
	}
}

func TestFirstThatIsTooDeep(t *testing.T) {
	deep := strings.Repeat("!", 60)
	for _, c := range []struct {
		src string
		at  int
	}{
		// The left operand of the 36th sign stands as deep as the 37th sign, and comes first.
		{"func f(){return " + strings.Repeat("(a+", 60) + "a" + strings.Repeat(")", 60) + "}", 16 + 3*35 + 1},
		// What goes together to the left has its last sign on top: of 60 signs the 24th is the 37th from there.
		{"func f(){return " + strings.Repeat("a+", 60) + "a}", 16 + 2*23 + 1},
		{"func f(){return " + strings.Repeat("a+", 37) + "a}", 17},
		{"func f(){return " + strings.Repeat("a+", 36) + "a}", 16},
		{"func f(){return a" + strings.Repeat(".Lock()", 60) + "}", 17 + 7*23},
		{"func f(){return a" + strings.Repeat(".Lock()", 36) + "}", 16},
		{"func f(){return " + strings.Repeat("f(", 60) + strings.Repeat(")", 60) + "}", 16 + 2*36},
		{"func f(){" + strings.Repeat("if a{", 60) + strings.Repeat("}", 61), 9 + 5*18 + 3},
		{"func f(){" + strings.Repeat("for{", 60) + strings.Repeat("}", 61), 9 + 4*18 + 3},
		{"func f(){" + strings.Repeat("if a{}else ", 60) + "{}}", 9 + 11*36 + 3},
		{"func f(){" + strings.Repeat("{", 60) + strings.Repeat("}", 61), 9 + 37},
		// A None stands nowhere: its place is 0.
		{"func f(){" + strings.Repeat("{", 36) + "for;;{}" + strings.Repeat("}", 37), 0},
		{"func f(){" + strings.Repeat("{", 36) + "for range c{}" + strings.Repeat("}", 37), 0},
		{"func f(){" + strings.Repeat("{", 36) + "for x:=range c{}" + strings.Repeat("}", 37), 9 + 36 + 4},
		{"func f(){" + strings.Repeat("{", 36) + "for{}" + strings.Repeat("}", 37), 9 + 36 + 3},
		{"func f(){" + strings.Repeat("{", 36) + "for c<-1;;{}" + strings.Repeat("}", 37), 9 + 36 + 5},
		{"func f(){return " + deep + "a};func g(){return " + deep + "a}", 16 + 36},
		{"func f(){};func g(){return " + deep + "a}", 27 + 36},
		{"func f(){x=a+" + deep + "b}", 13 + 35},
		{"func f(){f(" + deep + "a," + deep + "b)}", 11 + 35},
		{"func f(){c<-" + deep + "a}", 12 + 36},
		{"func f(){" + strings.Repeat("switch{case a:", 60) + strings.Repeat("}", 61), 9 + 14*12 + 7},
		{"func f(){" + strings.Repeat("select{default:", 60) + strings.Repeat("}", 61), 9 + 15*12 + 7},
	} {
		wantFault(t, c.src, c.at, api.ErrParseNest)
	}
}

func TestBracketsAreNotNested(t *testing.T) {
	wide := strings.Repeat("(", 4000)
	shut := strings.Repeat(")", 4000)
	wantText(t, "func f(){"+wide+"f()"+shut+"}", "func f() {\n\tf()\n}\n")
	wantText(t, "func f(){x="+wide+"a+(b)"+shut+"*c}", "func f() {\n\tx = (a + b) * c\n}\n")
	wantText(t, "func f(a "+wide+"int"+shut+")"+wide+"bool"+shut+"{}", "func f(a int) bool {\n}\n")
	wantText(t, "func f(){x=a"+strings.Repeat("+(b)", 34)+"}", "func f() {\n\tx = a"+strings.Repeat(" + b", 34)+"\n}\n")
}

// channels is a type of so many channels as it may be written, and its text, as far as there is one.
func channels(form string, many int) (string, string) {
	source, text := "int", "int"
	for i := range many {
		dir := strings.Index("bsr", form[i%len(form):][:1])
		switch dir {
		case 0:
			source = "chan(" + source + ")"
		case 1:
			source = "chan<-" + source
		case 2:
			source = "<-chan " + source
		}
		text, _ = types.Chan(dir, text)
	}
	return source, text
}

func TestChannelsWithinOneAnother(t *testing.T) {
	for _, form := range []string{"b", "s", "r", "bs", "br", "sr", "bsr", "rrb"} {
		for _, many := range []int{0, 1, 2, 38, 39, 40} {
			source, text := channels(form, many)
			if !types.Right(text) || types.Depth(text) != many {
				t.Fatalf("no type: %q", text)
			}
			wantTree(t, "func f(p "+source+")"+source+"{}", "File@0(Func f <"+text+">@0(Param p <"+text+">@7, Block@"+strconv.Itoa(10+2*len(source))+"))")
			wantTree(t, "func f(){var x("+source+")}", "File@0(Func f@0(Block@8(Var x <"+text+">@9)))")
			wantTree(t, "func f(){x=make("+source+")}", "File@0(Func f@0(Block@8(Assign 1@9(Name x@9, Make <"+text+">@11))))")
		}
		for _, many := range []int{41, 42, 80, 1000} {
			source, _ := channels(form, many)
			wantFault(t, "func f(p "+source+"){}", 7, api.ErrParseNest)
			wantFault(t, "func f(a int,p "+source+"){}", 13, api.ErrParseNest)
			wantFault(t, "func f() "+source+"{}", 0, api.ErrParseNest)
			wantFault(t, "func e(){};func f() ("+source+"){}", 11, api.ErrParseNest)
			wantFault(t, "func f(){var x "+source+"}", 9, api.ErrParseNest)
			wantFault(t, "func f(){var x "+source+"=a}", 9, api.ErrParseNest)
			wantFault(t, "func f(){x=make("+source+",1)}", 11, api.ErrParseNest)
			wantFault(t, "func f(){make("+source+").Lock()}", 9, api.ErrParseNest)
		}
	}
}

// TestTypesAndNodesInOrder: of a type and a node that are too deep the one is told that comes first, a node ahead of its kids.
func TestTypesAndNodesInOrder(t *testing.T) {
	long, _ := channels("b", 41)
	deep := strings.Repeat("!", 40)
	wantFault(t, "func e(){};func f(a int,p "+long+")"+long+"{}", 11, api.ErrParseNest)
	wantFault(t, "func f(a int,p "+long+"){return "+deep+"a}", 13, api.ErrParseNest)
	wantFault(t, "func f(){var x "+long+"="+deep+"a}", 9, api.ErrParseNest)
	wantFault(t, "func f(){return "+deep+"a;var x "+long+"}", 16+36, api.ErrParseNest)
	wantFault(t, "func f(){return "+deep+"make("+long+")}", 16+36, api.ErrParseNest)
	wantFault(t, "func f(){return !!make("+long+","+deep+"a)}", 18, api.ErrParseNest)
	wantFault(t, "func f(){return a*"+deep+"b+make("+long+")}", 16+2+34, api.ErrParseNest)
	wantFault(t, "func f(){return make("+long+")+"+deep+"b}", 16, api.ErrParseNest)
}

func TestTokensAheadOfDepth(t *testing.T) {
	long, _ := channels("s", 41)
	deep := "func f(){return " + strings.Repeat("!", 400) + "a"
	wantToken(t, deep+" ^)")
	wantToken(t, deep+"}^)")
	wantToken(t, deep+"};func g(^;")
	wantToken(t, deep+"};func^")
	wantToken(t, "func f(p "+long+"^;")
	wantToken(t, "func f(p "+long+"){^")
	wantToken(t, "func f(p chan "+strings.Repeat("chan ", 400)+"^x")
	wantToken(t, "func f(){"+strings.Repeat("{", 400)+"^")
	wantToken(t, "func f(){"+strings.Repeat("{", 400)+strings.Repeat("}", 400)+"^")
	wantToken(t, "func f(){"+strings.Repeat("{", 400)+"1^}")
}

// TestGreatSources: as many parts within one another as a source has room for; none of them panics, and each has an answer of some form.
func TestGreatSources(t *testing.T) {
	ahead := "func f(){"
	for _, part := range []string{"(", "{", "!", "<-", "-(", "f(", "if a{", "if a{}else ", "for{", "for;;{", "switch{case a:", "switch{default:", "select{default:", "select{case <-c:", "a+", "a+(", "m.Add(", "var x chan ", "x=", "f();", "x,", "println(", `println("",`, "make(chan ", "make(int,", "return ", ";", "case ", "a.", ")", "}", "func f(){};", "a.Lock().", "\n", "x\n"} {
		for _, first := range []string{"", ahead, ahead + "var x ", ahead + "x=", ahead + "a"} {
			src := first + strings.Repeat(part, (api.MaxSource-len(first))/len(part))
			parsed(t, src)
		}
	}
	for _, c := range [][3]string{{"(", "f()", ")"}, {"{", "", "}"}, {"f(", "", ")"}, {"if a{", "", "}"}, {"-(", "a", ")<-1"}, {"for{", "", "}"}} {
		many := 9900 / len(c[0]+c[2])
		src := ahead + strings.Repeat(c[0], many) + c[1] + strings.Repeat(c[2], many) + "}"
		if _, err := parse.Parse(src); err == nil && c[0] != "(" {
			t.Errorf("%s: no fault", short(src))
		}
	}
	// Nothing of a source is left out for its length.
	stmts := strings.Repeat("x++;", 4990)
	n, fault := parsed(t, ahead+stmts+"}")
	if fault != nil || tree.Count(n, 1<<20) != 3+2*4990 {
		t.Errorf("%d nodes, %v", tree.Count(n, 1<<20), fault)
	}
}

func TestAnyBytes(t *testing.T) {
	r := source(10)
	for range 5000 {
		src := []byte(allForms())
		from := r.Intn(len(src))
		src = src[from : from+r.Intn(len(src)-from+1)]
		for range r.Intn(10) {
			if len(src) > 0 {
				src[r.Intn(len(src))] = byte(r.Intn(256))
			}
		}
		one, fault := parsed(t, string(src))
		other, again := parsed(t, string(src))
		if !whole(one, other) || (fault == nil) != (again == nil) || fault != nil && *fault != *again {
			t.Errorf("P2: %s: two answers", short(string(src)))
		}
	}
}
