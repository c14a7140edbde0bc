package parse_test

import (
	"testing"

	"drowse/api"
	"drowse/tree"
)

// wantBack: what is written of a tree is parsed as that tree, and as it is written of that.
func wantBack(t *testing.T, n api.Node) {
	t.Helper()
	text, e := tree.Text(n)
	if e != api.OK || len(text) > api.MaxSource {
		t.Fatalf("no text, %d: %s", e, short(text))
	}
	got, fault := parsed(t, text)
	if fault != nil || !tree.Same(got, n) {
		t.Errorf("P6.3: %s: %s, %v", short(text), shown(got), fault)
	}
	if again, e := tree.Text(got); again != text || e != api.OK {
		t.Errorf("P6.3: %s: written again as %s, %d", short(text), short(again), e)
	}
}

func TestBack(t *testing.T) {
	r := source(9)
	backs := 0
	for i := range 6000 {
		g := grower{r, 1 + i%97}
		n := g.file()
		text, e := tree.Text(n)
		if e == api.ErrTreeNest {
			continue
		}
		if len(text) <= api.MaxSource {
			wantBack(t, n)
			backs++
		}
		// What was laid out otherwise is written, parsed, and the same.
		if src, _ := laid(r, n); len(src) <= api.MaxSource {
			got, _ := parsed(t, src)
			wantBack(t, got)
		}
	}
	if backs < 3000 {
		t.Errorf("too few: %d", backs)
	}
}

func TestBackOfEachForm(t *testing.T) {
	for _, src := range append(sources(), allForms()) {
		n, fault := parsed(t, src)
		if fault != nil {
			t.Errorf("%s: %v", short(src), fault)
		}
		wantBack(t, n)
	}
}

// inMain is the file whose main has these statements.
func inMain(stmts ...api.Node) api.Node {
	body := api.Node{Kind: api.NodeBlock, Kids: stmts}
	return api.Node{Kind: api.NodeFile, Kids: []api.Node{{Kind: api.NodeFunc, Text: "main", Kids: []api.Node{body}}}}
}

func step(x string) api.Node {
	return api.Node{Kind: api.NodeStep, N: 1, Kids: []api.Node{{Kind: api.NodeName, Text: x}}}
}

func TestBackOfTheGreatest(t *testing.T) {
	// The lines of the func have 16 bytes, a step of x has 5.
	stmts := []api.Node{step("xxxxx")}
	for range (api.MaxSource - 16 - 9) / 5 {
		stmts = append(stmts, step("x"))
	}
	n := inMain(stmts...)
	if text, _ := tree.Text(n); len(text) != api.MaxSource {
		t.Fatalf("%d bytes", len(text))
	}
	wantBack(t, n)
	stmts[0] = step("xxxxxx")
	text, _ := tree.Text(inMain(stmts...))
	wantFault(t, text, 0, api.ErrLexLong)
}

func TestBackOfTheDeepest(t *testing.T) {
	for _, form := range []string{"b", "s", "r", "br", "rsb"} {
		_, text := channels(form, 40)
		wantBack(t, inMain(api.Node{Kind: api.NodeVar, Text: "x", Type: text}))
	}
	for _, sign := range []string{"+", "-", "!", "<-"} {
		e := api.Node{Kind: api.NodeName, Text: "a"}
		for range 35 {
			e = api.Node{Kind: api.NodeUnary, Text: sign, Kids: []api.Node{e}}
		}
		n := inMain(api.Node{Kind: api.NodeReturn, Kids: []api.Node{e}})
		if tree.Depth(n, 100) != 40 {
			t.Fatalf("depth %d", tree.Depth(n, 100))
		}
		wantBack(t, n)
	}
}
