package tree_test

import (
	"math"
	"reflect"
	"slices"
	"testing"

	"drowse/api"
	"drowse/tree"
)

// checked are the kinds whose Type is what check lays down.
func checked() []api.NodeKind {
	return []api.NodeKind{api.NodeName, api.NodeInt, api.NodeBool, api.NodeNil, api.NodeUnary, api.NodeBinary, api.NodeCall, api.NodeMethod}
}

// marked is a node as parse and check leave it: with places, slots, and types of expressions.
func marked(n api.Node) api.Node {
	n = copied(n)
	n.At, n.Line, n.Slot = 7, -3, 9
	if slices.Contains(checked(), n.Kind) {
		n.Type = "chan int"
	}
	for i := range n.Kids {
		n.Kids[i] = marked(n.Kids[i])
	}
	return n
}

// stripped is what Bare is to be, written down kind by kind.
func stripped(n api.Node) api.Node {
	s := api.Node{Kind: n.Kind, Text: n.Text, N: n.N, Type: n.Type}
	if slices.Contains(checked(), n.Kind) {
		s.Type = ""
	}
	for _, kid := range n.Kids {
		s.Kids = append(s.Kids, stripped(kid))
	}
	return s
}

// alike tells of two nodes whether all that counts is alike.
func alike(a, b api.Node) bool { return reflect.DeepEqual(stripped(a), stripped(b)) }

func plainDepth(n api.Node) int {
	deepest := 0
	for _, kid := range n.Kids {
		deepest = max(deepest, plainDepth(kid))
	}
	return deepest + 1
}

func plainCount(n api.Node) int {
	count := 1
	for _, kid := range n.Kids {
		count += plainCount(kid)
	}
	return count
}

func wantSame(t *testing.T, a, b api.Node, want bool) {
	t.Helper()
	if tree.Same(a, b) != want || tree.Same(b, a) != want {
		t.Errorf("Same: not %v: %+v, %+v", want, a, b)
	}
}

func wantBare(t *testing.T, n api.Node) {
	t.Helper()
	bare, want := tree.Bare(n), stripped(n)
	// A list without elements may be nil or not.
	if !reflect.DeepEqual(copied(bare), copied(want)) {
		t.Errorf("Bare: %+v, not %+v", bare, want)
	}
	wantSame(t, bare, n, true)
	wantSame(t, bare, bare, true)
	if tree.Right(bare) != tree.Right(n) {
		t.Errorf("Right of the bare one is another: %+v", n)
	}
	s, e := tree.Text(n)
	if bareText, bareErr := tree.Text(bare); bareText != s || bareErr != e {
		t.Errorf("Text of the bare one is another: %q, %d, not %q, %d", bareText, bareErr, s, e)
	}
	for _, most := range []int{-1, 0, 1, 2, 3, 5, 10, 100000} {
		if tree.Count(bare, most) != tree.Count(n, most) || tree.Depth(bare, most) != tree.Depth(n, most) {
			t.Errorf("Count or Depth of the bare one is another: %+v", n)
		}
	}
}

// trees are nodes of all sorts, right ones and wrong ones, with marks and without.
func trees() []api.Node {
	l := append(pieces(), api.Node{Kind: -5, Text: "\xff", N: -1, Type: "?", Slot: -1, At: -1, Line: -1, Kids: pieces()})
	for _, f := range files() {
		l = append(l, f.n, marked(f.n))
	}
	return l
}

func TestSameOfEachField(t *testing.T) {
	for _, k := range everyKind() {
		n := api.Node{Kind: k, Text: "x", N: 2, Type: "int", Slot: 1, At: 2, Line: 3, Kids: []api.Node{name("a"), number(1)}}
		for _, c := range []struct {
			change func(*api.Node)
			want   bool
		}{
			{func(*api.Node) {}, true},
			{func(n *api.Node) { n.Kind++ }, false},
			{func(n *api.Node) { n.Text = "" }, false},
			{func(n *api.Node) { n.Text = "X" }, false},
			{func(n *api.Node) { n.N = 3 }, false},
			{func(n *api.Node) { n.N += 1 << 32 }, false},
			{func(n *api.Node) { n.Type = "bool" }, slices.Contains(checked(), k)},
			{func(n *api.Node) { n.Type = "" }, slices.Contains(checked(), k)},
			{func(n *api.Node) { n.Slot = -1 }, true},
			{func(n *api.Node) { n.At = 99 }, true},
			{func(n *api.Node) { n.Line = 0 }, true},
			{func(n *api.Node) { n.Kids = nil }, false},
			{func(n *api.Node) { n.Kids = n.Kids[:1] }, false},
			{func(n *api.Node) { n.Kids = append(n.Kids, none()) }, false},
			{func(n *api.Node) { n.Kids[0], n.Kids[1] = n.Kids[1], n.Kids[0] }, false},
			{func(n *api.Node) { n.Kids[0].Text = "b" }, false},
			{func(n *api.Node) { n.Kids[1].N = 0 }, false},
			{func(n *api.Node) { n.Kids[1].Kind = api.NodeBool }, false},
			{func(n *api.Node) { n.Kids[1].Kids = []api.Node{none()} }, false},
			{func(n *api.Node) { n.Kids[0].Type = "int" }, true},
			{func(n *api.Node) { n.Kids[0].Slot, n.Kids[1].At, n.Kids[1].Line = 1, 2, 3 }, true},
		} {
			other := copied(n)
			c.change(&other)
			wantSame(t, n, other, c.want)
			wantSame(t, block(leave(), n), block(leave(), other), c.want)
			wantSame(t, around(n, 50), around(other, 50), c.want)
		}
	}
}

func TestSameOfEmptyLists(t *testing.T) {
	for _, k := range everyKind() {
		wantSame(t, api.Node{Kind: k}, api.Node{Kind: k, Kids: []api.Node{}}, true)
		wantSame(t, api.Node{Kind: k}, api.Node{Kind: k, Kids: make([]api.Node, 0, 3)}, true)
		wantSame(t, api.Node{Kind: k}, api.Node{Kind: k, Kids: make([]api.Node, 1)}, false)
	}
}

// TestSameIsAnEquality: each of all trees against each.
func TestSameIsAnEquality(t *testing.T) {
	l := trees()
	bare := make([]api.Node, len(l))
	for i, n := range l {
		bare[i] = stripped(n)
	}
	for i, a := range l {
		for j, b := range l {
			if want := reflect.DeepEqual(bare[i], bare[j]); tree.Same(a, b) != want {
				t.Fatalf("Same: not %v: %+v, %+v", want, a, b)
			}
		}
	}
}

func TestSameOfOneChange(t *testing.T) {
	with := pieces()[:20]
	for _, f := range files()[:40] {
		changes(f.n, with, func(n api.Node) {
			if want := alike(f.n, n); tree.Same(f.n, n) != want || tree.Same(n, f.n) != want {
				t.Fatalf("Same: not %v: %+v, %+v", want, f.n, n)
			}
		})
	}
}

func TestSameFarBelowAndFarAside(t *testing.T) {
	wantSame(t, around(name("a"), 65000), around(name("a"), 65000), true)
	wantSame(t, around(name("a"), 65000), around(name("b"), 65000), false)
	wantSame(t, around(name("a"), 65000), around(name("a"), 64999), false)
	wide, other := make([]api.Node, 100000), make([]api.Node, 100000)
	wantSame(t, block(wide...), block(other...), true)
	other[99999].N = 1
	wantSame(t, block(wide...), block(other...), false)
}

// doubled is n with that many nodes around it of which each has the one below it twice, in the same memory.
func doubled(n api.Node, times int) api.Node {
	for range times {
		n = node(api.NodeBlock, n, n)
	}
	return n
}

func TestSameOfSharedKids(t *testing.T) {
	wantSame(t, doubled(name("a"), 60), doubled(name("a"), 60), true)
	wantSame(t, doubled(name("a"), 60), doubled(name("b"), 60), false)
	wantSame(t, doubled(name("a"), 60), doubled(name("a"), 61), false)
	n := doubled(name("a"), 60)
	wantSame(t, n, n, true)
	shared := []api.Node{name("a"), name("b"), name("c")}
	wantSame(t, block(shared...), block(shared[:2]...), false)
	wantSame(t, block(shared[:2]...), block(shared[1:]...), false)
	// The lists of the first two are held against each other, those of the last two are not.
	x, y := block(name("a")), block(name("b"))
	wantSame(t, block(x, x), block(x, y), false)
	wantSame(t, block(x, y, x), block(x, y, y), false)
	long, longer := []api.Node{name("a"), name("b"), name("c")}, []api.Node{name("a"), name("b"), name("d")}
	wantSame(t, block(block(long[:2]...), block(long...)), block(block(longer[:2]...), block(longer...)), false)
	wantSame(t, block(x, y, x, y), block(copied(x), copied(y), copied(x), copied(y)), true)
}

func TestBareOfEachKind(t *testing.T) {
	for _, k := range everyKind() {
		wantBare(t, api.Node{Kind: k})
		n := api.Node{Kind: k, Text: "t", N: -4, Type: "int", Slot: 1, At: 2, Line: 3}
		wantBare(t, n)
		n.Kids = []api.Node{n, marked(name("b"))}
		wantBare(t, block(leave(), n, n))
	}
}

func TestBareOfAllTrees(t *testing.T) {
	for _, n := range trees() {
		wantBare(t, n)
	}
	wantBare(t, marked(around(name("a"), 1000)))
	wantSame(t, tree.Bare(around(name("a"), 65000)), around(name("a"), 65000), true)
}

func TestBareOfOneChange(t *testing.T) {
	with := pieces()[:10]
	for _, f := range files()[:20] {
		changes(marked(f.n), with, func(n api.Node) {
			bare := tree.Bare(n)
			if !tree.Same(bare, n) || tree.Right(bare) != tree.Right(n) || tree.Count(bare, 20) != tree.Count(n, 20) || tree.Depth(bare, 5) != tree.Depth(n, 5) {
				t.Fatalf("Bare is another: %+v", n)
			}
		})
	}
}

// wreck writes into all lists of a node.
func wreck(n api.Node) {
	for i := range n.Kids {
		wreck(n.Kids[i])
		n.Kids[i] = api.Node{Kind: 77, Text: "wrecked"}
	}
}

func TestBareIsNewMemory(t *testing.T) {
	shared := []api.Node{name("a"), call("f", name("b"))}
	n := block(api.Node{Kind: api.NodeBlock, Kids: shared}, api.Node{Kind: api.NodeBlock, Kids: shared}, api.Node{Kind: api.NodeBlock, Kids: shared[:1]})
	before := copied(n)
	bare := tree.Bare(n)
	wreck(bare.Kids[0])
	if !reflect.DeepEqual(copied(n), before) {
		t.Error("Bare shares memory with its argument")
	}
	if !tree.Same(bare.Kids[1], before.Kids[1]) || !tree.Same(bare.Kids[2], before.Kids[2]) {
		t.Error("lists of what Bare answers share memory")
	}
	bare = tree.Bare(n)
	wreck(n)
	if !tree.Same(bare, before) {
		t.Error("Bare keeps its argument's memory")
	}
	// An append to one list must not run into another one.
	bare = tree.Bare(before)
	for i := range bare.Kids {
		_ = append(bare.Kids[i].Kids, api.Node{Kind: 77})
	}
	if !tree.Same(bare, before) {
		t.Error("there is room behind a list in another one's memory")
	}
}

func TestArgumentsAreLeft(t *testing.T) {
	for _, f := range files() {
		room := make([]api.Node, len(f.n.Kids), len(f.n.Kids)+2)
		copy(room, f.n.Kids)
		n := f.n
		n.Kids = room
		behind := room[:cap(room)]
		behind[len(room)] = api.Node{Kind: 77, Text: "behind"}
		before := copied(n)
		tree.Right(n)
		tree.Text(n)
		tree.Same(n, n)
		tree.Same(n, f.n)
		tree.Bare(n)
		tree.Count(n, 1000)
		tree.Depth(n, 1000)
		if !reflect.DeepEqual(copied(n), before) || behind[len(room)].Text != "behind" {
			t.Errorf("the argument is changed: %q", f.text)
		}
	}
}

// TestBehindTheLength: what lies behind a list's length is not looked at.
func TestBehindTheLength(t *testing.T) {
	l := []api.Node{leave(), none(), around(name("a"), 50)}
	n := inMain(api.Node{Kind: api.NodeBlock, Kids: l[:1]})
	wantText(t, n, "func main() {\n\t{\n\t\tbreak\n\t}\n}\n")
	if tree.Count(n, 100) != 5 || tree.Depth(n, 100) != 5 {
		t.Error("Count or Depth looks behind a list's length")
	}
	wantSame(t, n, inMain(block(leave())), true)
	wantBare(t, n)
}

func wantCount(t *testing.T, n api.Node, most, want int) {
	t.Helper()
	if got := tree.Count(n, most); got != want {
		t.Errorf("Count up to %d: %d, not %d", most, got, want)
	}
}

func wantDepth(t *testing.T, n api.Node, most, want int) {
	t.Helper()
	if got := tree.Depth(n, most); got != want {
		t.Errorf("Depth up to %d: %d, not %d", most, got, want)
	}
}

// upTo is n, or most and 1, if n is above that; most below 0 counts as 0.
func upTo(n, most int) int { return min(n, max(most, 0)+1) }

func TestCountAndDepthOfAllTrees(t *testing.T) {
	for _, n := range trees() {
		count, depth := plainCount(n), plainDepth(n)
		for most := -2; most <= count+2; most++ {
			wantCount(t, n, most, upTo(count, most))
			wantDepth(t, n, most, upTo(depth, most))
		}
		for _, most := range []int{math.MinInt, math.MinInt + 1, -1 << 31, 1 << 31, math.MaxInt - 1, math.MaxInt} {
			wantCount(t, n, most, upTo(count, min(most, 1<<40)))
			wantDepth(t, n, most, upTo(depth, min(most, 1<<40)))
		}
	}
}

func TestCountAndDepthWrittenOut(t *testing.T) {
	a := name("a")
	for _, c := range []struct {
		n            api.Node
		count, depth int
	}{
		{api.Node{}, 1, 1}, {a, 1, 1}, {block(), 1, 1}, {file(), 1, 1}, {api.Node{Kind: 99, Kids: []api.Node{}}, 1, 1},
		{block(a), 2, 2}, {block(a, a, a), 4, 2}, {block(block(a), a), 4, 3}, {block(a, block(a)), 4, 3}, {block(a, block(block(a)), a), 6, 4}, {inMain(result(a)), 5, 5}, {inMain(leave(), leave()), 5, 4},
	} {
		wantCount(t, c.n, 1000, c.count)
		wantCount(t, c.n, c.count, c.count)
		wantCount(t, c.n, c.count-1, c.count)
		wantDepth(t, c.n, 1000, c.depth)
		wantDepth(t, c.n, c.depth, c.depth)
		wantDepth(t, c.n, c.depth-1, c.depth)
		for _, most := range []int{0, -1, -1000, math.MinInt} {
			wantCount(t, c.n, most, 1)
			wantDepth(t, c.n, most, 1)
		}
	}
}

func TestCountAndDepthOfGreatTrees(t *testing.T) {
	long := around(name("a"), 65000)
	wide := block(make([]api.Node, 1000000)...)
	for _, most := range []int{0, 1, 2, 40, 64999, 65000, 65001, 65002, 999999, 1000000, 1000001, 1000002, math.MaxInt} {
		wantCount(t, long, most, upTo(65001, min(most, 1<<40)))
		wantDepth(t, long, most, upTo(65001, min(most, 1<<40)))
		wantCount(t, wide, most, upTo(1000001, min(most, 1<<40)))
		wantDepth(t, wide, most, upTo(2, min(most, 1<<40)))
	}
}

// TestCountAndDepthOfDoubledKids: a tree of more nodes than could be gone through one by one.
func TestCountAndDepthOfDoubledKids(t *testing.T) {
	n := doubled(name("a"), 60)
	for _, most := range []int{-1, 0, 1, 2, 3, 40, 60, 61, 62, 1000, 1000000, 1<<31 - 1} {
		wantCount(t, n, most, max(most, 0)+1)
		wantDepth(t, n, most, upTo(61, most))
	}
	const all = 1<<61 - 1
	for _, most := range []int{all - 1, all, all + 1, math.MaxInt} {
		wantCount(t, n, most, upTo(all, min(most, 1<<62)))
	}
	// The deep part stands behind the one that is endless to go through.
	behind := block(doubled(name("a"), 50), around(name("a"), 60))
	wantDepth(t, behind, 61, 62)
	wantDepth(t, behind, 62, 62)
	wantDepth(t, behind, 60, 61)
	wantDepth(t, behind, 51, 52)
}

// TestCountAndDepthOfPartsOfAList: each node has all that stand behind it in one list as its kids.
func TestCountAndDepthOfPartsOfAList(t *testing.T) {
	const size = 40
	l := make([]api.Node, size)
	for i := range l {
		l[i].Kids = l[i+1:]
	}
	n := block(l...)
	wantDepth(t, n, 100, size+1)
	wantDepth(t, n, size, size+1)
	wantDepth(t, n, size-1, size)
	wantCount(t, n, math.MaxInt, 1<<size)
	wantCount(t, n, 1<<size, 1<<size)
	wantCount(t, n, 1<<size-1, 1<<size)
	wantCount(t, n, 1<<size-2, 1<<size-1)
	wantCount(t, n, 10, 11)
	beginnings := []api.Node{name("a"), block(name("a"), block())}
	n = block(block(beginnings[:1]...), block(beginnings...), block(beginnings[:1]...))
	wantCount(t, n, 100, 10)
	wantDepth(t, n, 100, 4)
}

// TestCountAndDepthOfARound: a list that stands within itself has no last node.
func TestCountAndDepthOfARound(t *testing.T) {
	l := make([]api.Node, 3)
	l[1].Kids = []api.Node{{Kids: l}}
	n := block(l...)
	for _, most := range []int{-1, 0, 1, 2, 10, 1000, 1 << 31} {
		wantCount(t, n, most, max(most, 0)+1)
		wantDepth(t, n, most, max(most, 0)+1)
	}
	wantWrong(t, "a list within itself", n, api.ErrTreeNest)
}

func TestSameAnswersAgain(t *testing.T) {
	var first []string
	for range 3 {
		var l []string
		for _, f := range files() {
			s, e := tree.Text(f.n)
			if e != api.OK {
				t.Errorf("Text: %d", e)
			}
			l = append(l, s)
			tree.Right(doubled(name("a"), 60))
			tree.Count(f.n, 3)
			tree.Depth(f.n, 2)
		}
		if first == nil {
			first = l
		}
		if !slices.Equal(first, l) {
			t.Error("Text answers something else")
		}
	}
}
