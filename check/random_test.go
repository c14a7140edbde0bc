package check_test

import (
	"math/rand"
	"slices"
	"strconv"
	"testing"

	"drowse/api"
	"drowse/tree"
)

// wantModelled: Check answers what the model says; it is told which error.
func wantModelled(t *testing.T, file api.Node) api.Errno {
	t.Helper()
	n, fault := checked(t, file)
	want, wantFault := modelled(file)
	if !sameFault(fault, wantFault) {
		t.Fatalf("%s: %v, not %v: %s", textOf(file), fault, wantFault, brief(file))
	}
	if !whole(n, want) {
		t.Fatalf("%s:\n%s, not\n%s", textOf(file), shown(n), shown(want))
	}
	if fault == nil {
		return api.OK
	}
	return fault.Err
}

// grown is a file, with each node at a place of its own.
func grown(r *rand.Rand) api.Node {
	g := grower{r: r}
	file := g.file()
	at := 0
	return changed(file, func(n *api.Node) {
		at += 1 + r.Intn(3)
		n.At, n.Line = at, at*2
	})
}

func TestGrown(t *testing.T) {
	r := source(7)
	found := map[api.Errno]int{}
	kinds := map[api.NodeKind]int{}
	for range 4000 {
		file := grown(r)
		e := wantModelled(t, file)
		found[e]++
		if e == api.OK {
			changed(file, func(n *api.Node) { kinds[n.Kind]++ })
		}
	}
	if found[api.OK] < 3000 || found[api.ErrTreeForm] > 0 {
		t.Errorf("the files that are grown are of no use: %v", found)
	}
	for k := api.NodeFile; k <= api.NodeMethod; k++ {
		if kinds[k] < 50 {
			t.Errorf("too few of %s: %d", kindName(k), kinds[k])
		}
	}
}

// anyOf is one of the nodes under a file's.
func anyOf(r *rand.Rand, file *api.Node) *api.Node {
	l := nodes(*file)
	return l[r.Intn(len(l))]
}

// twist changes something somewhere; the tree need not be right any more.
func twist(r *rand.Rand, file *api.Node) {
	n := anyOf(r, file)
	g := grower{r: r}
	switch r.Intn(12) {
	case 0, 1, 2:
		twistText(&g, n)
	case 3, 4:
		if n.Kind == api.NodeVar || n.Kind == api.NodeParam || n.Kind == api.NodeMake || n.Kind == api.NodeFunc {
			n.Type = g.typeText()
		}
		if n.Kind == api.NodeFunc && r.Intn(2) == 0 {
			n.Type = ""
		}
	case 5:
		if len(n.Kids) > 0 {
			i := r.Intn(len(n.Kids))
			n.Kids = slices.Delete(slices.Clone(n.Kids), i, i+1)
		}
	case 6:
		if len(n.Kids) > 0 {
			i := r.Intn(len(n.Kids))
			n.Kids = slices.Insert(slices.Clone(n.Kids), r.Intn(len(n.Kids)), copied(n.Kids[i]))
		}
	case 7:
		if len(n.Kids) > 1 {
			i, j := r.Intn(len(n.Kids)), r.Intn(len(n.Kids))
			n.Kids[i], n.Kids[j] = n.Kids[j], n.Kids[i]
		}
	case 8:
		other := copied(*anyOf(r, file))
		at := n.At
		*n = other
		n.At = at
	default:
		twistExpr(r, n)
	}
}

func twistText(g *grower, n *api.Node) {
	switch n.Kind {
	case api.NodeName, api.NodeVar, api.NodeParam, api.NodeFunc:
		n.Text = pickOf(g, append(names(), "_"))
	case api.NodeCall:
		n.Text = pickOf(g, append(names(), "h", "len", "cap", "close", "yield", "println"))
	case api.NodeUnary:
		n.Text = pickOf(g, []string{"+", "-", "!", "<-"})
	case api.NodeBinary:
		n.Text = pickOf(g, []string{"||", "==", "<", "+"})
	case api.NodeMethod:
		n.Text = pickOf(g, []string{"Lock", "Add", "Wait"})
	case api.NodeFor:
		n.Text = pickOf(g, []string{"", ":=", "="})
	}
}

// twistExpr puts another expression, or a leap, in the place of one.
func twistExpr(r *rand.Rand, n *api.Node) {
	at := n.At
	switch n.Kind {
	case api.NodeName, api.NodeInt, api.NodeBool, api.NodeNil, api.NodeUnary, api.NodeBinary, api.NodeCall, api.NodeMake, api.NodeMethod:
		*n = []api.Node{number(1), counted(api.NodeBool, 1), node(api.NodeNil), name("a"), name("f"), texted(api.NodeCall, "f"), texted(api.NodeCall, "yield"), {Kind: api.NodeMake, Type: "Mutex"}, {Kind: api.NodeMake, Type: "chan int"}}[r.Intn(9)]
	case api.NodeDo, api.NodeAssign, api.NodeReturn:
		*n = []api.Node{node(api.NodeBreak), node(api.NodeContinue), node(api.NodeReturn), node(api.NodeReturn, number(1))}[r.Intn(4)]
	}
	n.At = at
}

// TestTwisted: files in which something is wrong, mostly; of those with several faults the first one is told.
func TestTwisted(t *testing.T) {
	r := source(8)
	found := map[api.Errno]int{}
	for range 12000 {
		file := copied(grown(r))
		for range 1 + r.Intn(3) {
			twist(r, &file)
		}
		// A right file is asked for; which trees are right is tree's own matter.
		if tree.Right(file) != api.OK {
			continue
		}
		found[wantModelled(t, file)]++
	}
	for e, least := range map[api.Errno]int{api.OK: 500, api.ErrCheckTwice: 50, api.ErrCheckName: 50, api.ErrCheckType: 500, api.ErrCheckCount: 50, api.ErrCheckUnused: 50, api.ErrCheckReturn: 50, api.ErrCheckPlace: 50, api.ErrCheckMain: 20} {
		if found[e] < least {
			t.Errorf("too few of %d: %v", e, found)
		}
	}
}

// renamed is a file in which each name of a variable or a function, but main, is another one.
func renamed(file api.Node, name func(n api.Node) string) api.Node {
	return changed(file, func(n *api.Node) {
		switch n.Kind {
		case api.NodeFunc, api.NodeParam, api.NodeVar, api.NodeName, api.NodeCall:
			n.Text = name(*n)
		}
	})
}

// stays tells whether a name is none of a variable's or a function's that may have another one.
func stays(text string) bool {
	return slices.Contains([]string{"main", "_", "len", "cap", "close", "yield", "println"}, text)
}

// sameMarks tells whether two files have the same Types and Slots, and places.
func sameMarks(a, b api.Node) bool {
	texts := func(n api.Node) api.Node { return renamed(n, func(api.Node) string { return "x" }) }
	return whole(texts(a), texts(b))
}

// TestNames: renamed one for one, a file has the same answer.
func TestNames(t *testing.T) {
	r := source(9)
	for i := range 3000 {
		file := copied(grown(r))
		if i%2 == 1 {
			twist(r, &file)
		}
		if tree.Right(file) != api.OK {
			continue
		}
		n, fault := checked(t, file)
		// Each name for itself, to one that is not used, longer or shorter than it was, in another order.
		other := renamed(file, func(n api.Node) string {
			if stays(n.Text) {
				return n.Text
			}
			return "Z" + strconv.Itoa(97*int(n.Text[0])%1000) + n.Text[1:]
		})
		m, otherFault := checked(t, other)
		if !sameFault(fault, otherFault) || !sameMarks(n, m) {
			t.Fatalf("P7.3: %s and %s: %s, %v and %s, %v", textOf(file), textOf(other), brief(n), fault, brief(m), otherFault)
		}
	}
}

// TestNamesOfVariables: each variable may have a name of its own.
func TestNamesOfVariables(t *testing.T) {
	r := source(10)
	count := 0
	for range 3000 {
		file := grown(r)
		n, fault := checked(t, file)
		if fault != nil {
			continue
		}
		number := -1
		other := renamed(n, func(n api.Node) string {
			switch {
			case n.Kind == api.NodeFunc:
				number++
				if n.Text != "main" {
					return "F" + strconv.Itoa(number)
				}
			case n.Kind == api.NodeCall && !stays(n.Text):
				return "F" + strconv.Itoa(n.Slot)
			case n.Kind != api.NodeCall && n.Text != "_":
				return "v" + strconv.Itoa(n.Slot)
			}
			return n.Text
		})
		count++
		m, fault := checked(t, other)
		if fault != nil || !sameMarks(n, m) {
			t.Fatalf("P7.3: %s and %s: %s and %s, %v", textOf(file), textOf(other), brief(n), brief(m), fault)
		}
	}
	if count < 1500 {
		t.Errorf("too few are accepted: %d", count)
	}
}
