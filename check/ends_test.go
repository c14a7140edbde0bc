package check_test

import (
	"strings"
	"testing"

	"drowse/api"
)

// endings are statements that end, and others that do not.
func endings() (yes, no []string) {
	yes = []string{
		"return 1", "{ return 1 }", "{ none(); { return 1 } }", "if true { return 1 } else { return 2 }", "if true { return 1 } else if false { return 2 } else { return 3 }", "if true { if true { return 1 } else { return 2 } } else { for { } }",
		"for { }", "for { none() }", "for ; ; { }", "for i := 0; ; i++ { _ = i }", "for ; ; none() { continue }", "for { for { break } }", "for { switch { default: break } }", "for { select { default: break } }", "for { for true { break }; continue }", "for { if true { for { break } } }", "for { return 1 }",
		"switch { default: return 1 }", "switch { case true: return 1; default: return 2 }", "switch { default: return 1; case true: for { } }", "switch 1 { case 1: return 1; default: return 2; case 2, 3: return 3 }", "switch 1 { default: { return 1 } }", "switch { default: for { break }; return 1 }", "switch { default: switch { default: break }; return 1 }", "switch { case true: for { if true { break } }; return 1; default: select { } }",
		"select { }", "select { default: return 1 }", "select { case <-make(chan int): return 1 }", "select { case x := <-make(chan int): return x; default: for { } }", "select { case make(chan int) <- 1: for { break }; return 1; default: select { default: break }; return 2 }", "select { case <-make(chan int): select { } }",
	}
	no = []string{
		"", "none()", "{ }", "{ return 1; none() }", "return 1; none()", "return 1; { }", "{ return 1 }; x := 1; _ = x", "if true { return 1 }", "if true { return 1 } else { }", "if true { } else { return 1 }", "if true { return 1 } else if true { return 2 }", "if true { } else if true { return 1 } else { return 2 }", "if true { return 1 } else if true { return 2 } else { none() }", "if true { return 1 } else { return 2 }; none()",
		"for true { }", "for true { return 1 }", "for ; true; { return 1 }", "for range make(chan int) { return 1 }", "for { break }", "for { if true { break } }", "for { if true { return 1 } else { break } }", "for { { { break } } }", "for { for { }; break }", "for { break; for { } }", "for ; ; { break }", "for { if true { } else if true { break } }", "for x := range make(chan int) { _ = x; for { } }",
		"switch { }", "switch 1 { }", "switch { case true: return 1 }", "switch { case true: return 1; case false: return 2 }", "switch { default: }", "switch { case true: return 1; default: }", "switch { case true: ; default: return 1 }", "switch { default: return 1; case true: none() }", "switch { default: break }", "switch { default: return 1; case true: break; return 2 }", "switch { default: if true { break }; return 1 }", "switch { default: { break }; return 1 }", "switch 1 { case 1: return 1 }", "switch { default: return 1; none() }",
		"select { default: }", "select { case <-make(chan int): }", "select { case <-make(chan int): return 1; default: }", "select { case <-make(chan int): ; default: return 1 }", "select { default: break }", "select { case <-make(chan int): if true { break }; return 1 }", "select { default: { break }; for { } }", "select { case <-make(chan int): break; return 1; default: return 2 }",
	}
	return yes, no
}

func TestEnds(t *testing.T) {
	yes, no := endings()
	inFunc := func(stmts, mark string) string {
		return "func main() { }\n" + mark + "func f() int { " + stmts + " }\nfunc g() Mutex { return nil }" + beside
	}
	for _, stmts := range yes {
		wantMarked(t, inFunc(stmts, ""), api.OK)
		wantMarked(t, inFunc("none(); "+stmts, ""), api.OK)
		wantMarked(t, inFunc("if true { "+stmts+" } else { "+stmts+" }", ""), api.OK)
		wantMarked(t, inFunc("switch { case true: "+stmts+"; default: "+stmts+" }", ""), api.OK)
		wantMarked(t, inFunc("select { default: "+stmts+"; case <-make(chan int): "+stmts+" }", ""), api.OK)
		wantMarked(t, inFunc(stmts+"; none()", "^"), api.ErrCheckReturn)
		wantMarked(t, inFunc("for true { "+stmts+" }", "^"), api.ErrCheckReturn)
		wantMarked(t, inFunc("if true { "+stmts+" }", "^"), api.ErrCheckReturn)
	}
	for _, stmts := range no {
		wantMarked(t, inFunc(stmts, "^"), api.ErrCheckReturn)
		wantMarked(t, inFunc("{ "+stmts+" }", "^"), api.ErrCheckReturn)
		wantMarked(t, inFunc(stmts+"; return 1", ""), api.OK)
		wantMarked(t, inFunc("if true { return 1 } else { "+stmts+" }", "^"), api.ErrCheckReturn)
		wantMarked(t, inFunc("switch { case true: "+stmts+"; default: return 1 }", "^"), api.ErrCheckReturn)
		wantMarked(t, inFunc("select { default: return 1; case <-make(chan int): "+stmts+" }", "^"), api.ErrCheckReturn)
	}
	// A function without a result may end as it likes.
	for _, stmts := range append(yes, no...) {
		wantFine(t, inMain(strings.NewReplacer("return 1", "return", "return 2", "return", "return 3", "return", "return x", "_ = x; return").Replace(stmts)))
	}
}

// TestSwitchOfOne: the number of a Switch is no mark of a default.
func TestSwitchOfOne(t *testing.T) {
	wantMarked(t, "func main() { }\n^func f() int { switch 1 { case 1: return 1 } }", api.ErrCheckReturn)
	wantMarked(t, "func main() { }\n^func f() int { switch true { case true: return 1; case false: return 0 } }", api.ErrCheckReturn)
	wantMarked(t, "func main() { }\nfunc f() int { switch 0 { case 1: return 1; default: return 0 } }", api.OK)
}
