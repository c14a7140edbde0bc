package check_test

import (
	"errors"
	"math/rand"
	"slices"
	"strconv"
	"strings"
	"testing"

	"drowse/api"
	"drowse/check"
	"drowse/parse"
	"drowse/tree"
)

// source is the same row of numbers in each run.
func source(seed int64) *rand.Rand { return rand.New(rand.NewSource(seed)) }

func kindName(k api.NodeKind) string {
	return strings.Fields("None File Func Param Block Var Define Assign Step Send Do If For Switch Case Select Arm Go Return Break Continue Name Int Bool Nil Text Unary Binary Call Make Method")[k]
}

// brief is shown, as far as there is room for it in a line that a test tells.
func brief(n api.Node) string { return short(shown(n)) }

// shown is a tree in a line: kind, Text, N (if it is not 0), <Type>, #Slot (if it is not 0), and the kids in brackets. Where it stands is not shown.
func shown(n api.Node) string {
	s := kindName(n.Kind)
	if n.Text != "" {
		s += " " + n.Text
	}
	if n.N != 0 {
		s += " " + strconv.FormatInt(n.N, 10)
	}
	if n.Type != "" {
		s += " <" + n.Type + ">"
	}
	if n.Slot != 0 {
		s += " #" + strconv.Itoa(n.Slot)
	}
	if len(n.Kids) == 0 {
		return s
	}
	kids := make([]string, len(n.Kids))
	for i, kid := range n.Kids {
		kids[i] = shown(kid)
	}
	return s + "(" + strings.Join(kids, ", ") + ")"
}

// whole tells whether two trees are one in all fields.
func whole(a, b api.Node) bool {
	if a.At != b.At || a.Line != b.Line || len(a.Kids) != len(b.Kids) {
		return false
	}
	return alike(a, b, whole)
}

// placeless tells whether two trees are one in all fields but At and Line.
func placeless(a, b api.Node) bool { return alike(a, b, placeless) }

func alike(a, b api.Node, kids func(a, b api.Node) bool) bool {
	return a.Kind == b.Kind && a.Text == b.Text && a.N == b.N && a.Type == b.Type && a.Slot == b.Slot && slices.EqualFunc(a.Kids, b.Kids, kids)
}

// copied is a node in memory of its own.
func copied(n api.Node) api.Node { return changed(n, func(*api.Node) {}) }

// changed is a node in memory of its own, in which something was done to each node, a node ahead of its kids.
func changed(n api.Node, do func(*api.Node)) api.Node {
	do(&n)
	kids := make([]api.Node, len(n.Kids))
	for i, kid := range n.Kids {
		kids[i] = changed(kid, do)
	}
	n.Kids = kids
	return n
}

// spoilt is a tree with other marks: other Types of expressions, and other Slots.
func spoilt(n api.Node) api.Node {
	count := 0
	return changed(n, func(n *api.Node) {
		count++
		n.Slot = 1000 - 7*count
		switch n.Kind {
		case api.NodeName, api.NodeInt, api.NodeBool, api.NodeNil, api.NodeUnary, api.NodeBinary, api.NodeCall, api.NodeMethod:
			n.Type = []string{"int", "bool", "nil", "chan int", "rubbish", "Mutex", ""}[count%7]
		}
	})
}

// nodes is the places in memory of all nodes under a node.
func nodes(n api.Node) []*api.Node {
	var l []*api.Node
	for i := range n.Kids {
		l = append(l, &n.Kids[i])
		l = append(l, nodes(n.Kids[i])...)
	}
	return l
}

// wantNewMemory: no two lists of an answer share memory, and none shares any with what was handed in.
func wantNewMemory(t *testing.T, answer, given api.Node) {
	t.Helper()
	taken := map[*api.Node]struct{}{}
	for _, n := range nodes(given) {
		taken[n] = struct{}{}
	}
	for _, n := range nodes(answer) {
		if _, ok := taken[n]; ok {
			t.Fatalf("%s: a list of the answer shares memory with another one, or with what was handed in", textOf(given))
		}
		taken[n] = struct{}{}
	}
}

func short(s string) string {
	if len(s) > 400 {
		return strconv.Quote(s[:400]) + " .."
	}
	return strconv.Quote(s)
}

// textOf is how a tree is written, for what a test tells.
func textOf(n api.Node) string {
	text, _ := tree.Text(n)
	return short(text)
}

// plain is what Check answers, where what was handed in is too great to be gone through.
func plain(file api.Node) (api.Node, *api.Fault) {
	n, err := check.Check(file)
	var fault *api.Fault
	errors.As(err, &fault)
	return n, fault
}

// plainly is what Check answers, of the form that an answer must have; what was handed in is as it was.
func plainly(t *testing.T, file api.Node) (api.Node, *api.Fault) {
	t.Helper()
	before := copied(file)
	n, err := check.Check(file)
	if !whole(before, file) {
		t.Fatalf("what was handed in has changed: %s", textOf(before))
	}
	if err == nil {
		return n, nil
	}
	fault, ok := err.(*api.Fault)
	if !ok || fault == nil || errors.Unwrap(err) != error(fault.Err) || fault.Err == api.OK {
		t.Fatalf("%s: an error that is no *api.Fault: %#v", textOf(file), err)
	}
	if !whole(n, api.Node{}) {
		t.Fatalf("%s: a node beside a fault: %s", textOf(file), brief(n))
	}
	return n, fault
}

// sameFault tells whether both are the same fault, or none.
func sameFault(a, b *api.Fault) bool {
	return a == b || a != nil && b != nil && *a == *b
}

// checked is plainly, and all that holds of each answer is asked: the marks that were there count for nothing, an accepted file is the same, in new memory, and checking again changes nothing.
func checked(t *testing.T, file api.Node) (api.Node, *api.Fault) {
	t.Helper()
	n, fault := plainly(t, file)
	other, otherFault := plainly(t, spoilt(file))
	if !whole(n, other) || !sameFault(fault, otherFault) {
		t.Errorf("K4: with other marks %s has another answer: %s, %v; not %s, %v", textOf(file), brief(other), otherFault, brief(n), fault)
	}
	if fault != nil {
		return n, fault
	}
	if !tree.Same(n, file) {
		t.Errorf("P7.2: %s is not the same as what is told of it: %s", textOf(file), brief(n))
	}
	wantNewMemory(t, n, file)
	again, fault := plainly(t, n)
	if fault != nil || !whole(again, n) {
		t.Errorf("P7.2: %s: checked again: %s, %v", textOf(file), brief(again), fault)
	}
	bare, fault := plainly(t, tree.Bare(n))
	if fault != nil || !placeless(bare, n) {
		t.Errorf("P7.2: %s: checked again without marks and places: %s, %v", textOf(file), brief(bare), fault)
	}
	return n, nil
}

func parsed(t *testing.T, src string) api.Node {
	t.Helper()
	n, err := parse.Parse(src)
	if err != nil {
		t.Fatalf("%s: %v", short(src), err)
	}
	return n
}

// wantFine: a source is accepted; its tree with the marks is told.
func wantFine(t *testing.T, src string) api.Node {
	t.Helper()
	n, fault := checked(t, parsed(t, src))
	if fault != nil {
		t.Errorf("%s: %v, not accepted", short(src), fault)
	}
	return n
}

// wantFault: a source is refused.
func wantFault(t *testing.T, src string, at int, e api.Errno) {
	t.Helper()
	if n, fault := checked(t, parsed(t, src)); fault == nil {
		t.Errorf("%s: %s, not %d at %d", short(src), brief(n), e, at)
	} else if fault.At != at || fault.Err != e {
		t.Errorf("%s: %d at %d, not %d at %d", short(src), fault.Err, fault.At, e, at)
	}
}

// wantMarked: the node at the mark ^, which is not of the source, is at fault; without a mark nothing is.
func wantMarked(t *testing.T, marked string, e api.Errno) {
	t.Helper()
	ahead, behind, ok := strings.Cut(marked, "^")
	if !ok {
		wantFine(t, marked)
		return
	}
	wantFault(t, ahead+behind, len(ahead), e)
}

// beside are functions that the mains of tests call.
const beside = `
func none() { }
func number() int { return 1 }
func truth() bool { return true }
func pair(a int, b bool) int { if b { return a }; return 0 }
func sink(c chan<- int) int { c <- 1; return 2 }
func well(c <-chan int) <-chan int { return c }
func locked(m Mutex, g WaitGroup) Mutex { g.Wait(); return m }
`

// inMain is the source whose main has these statements; the functions of beside stand behind it.
func inMain(stmts string) string { return "func main() { " + stmts + " }" + beside }

// wantIn: wantMarked of the statements of a main, each of which is refused with the same error where a mark stands.
func wantIn(t *testing.T, e api.Errno, marked ...string) {
	t.Helper()
	for _, m := range marked {
		wantMarked(t, inMain(m), e)
	}
}

// fineIn: statements of a main that are accepted.
func fineIn(t *testing.T, stmts ...string) {
	t.Helper()
	for _, s := range stmts {
		if strings.Contains(s, "^") {
			t.Fatalf("a mark in %s", s)
		}
		wantFine(t, inMain(s))
	}
}
