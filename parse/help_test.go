package parse_test

import (
	"errors"
	"math/rand"
	"strconv"
	"strings"
	"testing"

	"drowse/api"
	"drowse/parse"
	"drowse/tree"
)

// source is the same row of numbers in each run.
func source(seed int64) *rand.Rand { return rand.New(rand.NewSource(seed)) }

func kindName(k api.NodeKind) string {
	return strings.Fields("None File Func Param Block Var Define Assign Step Send Do If For Switch Case Select Arm Go Return Break Continue Name Int Bool Nil Text Unary Binary Call Make Method")[k]
}

// shown is a tree in a line: kind, Text, N (if it is not 0), <Type>, @At, :Line (if it is not 1), and the kids in brackets.
func shown(n api.Node) string {
	s := kindName(n.Kind)
	if n.Text != "" || n.Kind == api.NodeText {
		s += " " + n.Text
	}
	if n.N != 0 || n.Kind == api.NodeInt || n.Kind == api.NodeBool {
		s += " " + strconv.FormatInt(n.N, 10)
	}
	if n.Type != "" {
		s += " <" + n.Type + ">"
	}
	if n.Slot != 0 {
		s += " slot " + strconv.Itoa(n.Slot)
	}
	s += "@" + strconv.Itoa(n.At)
	if n.Line != 1 {
		s += ":" + strconv.Itoa(n.Line)
	}
	if len(n.Kids) == 0 {
		return s
	}
	kids := make([]string, len(n.Kids))
	for i, kid := range n.Kids {
		kids[i] = shown(kid)
	}
	return s + "(" + strings.Join(kids, ", ") + ")"
}

// whole tells whether two trees are one in all fields.
func whole(a, b api.Node) bool {
	if a.Kind != b.Kind || a.Text != b.Text || a.N != b.N || a.Type != b.Type || a.Slot != b.Slot || a.At != b.At || a.Line != b.Line || len(a.Kids) != len(b.Kids) {
		return false
	}
	for i := range a.Kids {
		if !whole(a.Kids[i], b.Kids[i]) {
			return false
		}
	}
	return true
}

func short(s string) string {
	if len(s) > 300 {
		return strconv.Quote(s[:300]) + " .."
	}
	return strconv.Quote(s)
}

// parsed is what Parse answers; it fails if that is of no form that an answer may have.
func parsed(t *testing.T, src string) (api.Node, *api.Fault) {
	t.Helper()
	n, err := parse.Parse(src)
	if err == nil {
		if e := tree.Right(n); e != api.OK {
			t.Fatalf("P6.2: the tree of %s is not right: %d", short(src), e)
		}
		return n, nil
	}
	fault, ok := err.(*api.Fault)
	if !ok || fault == nil || errors.Unwrap(err) != error(fault.Err) {
		t.Fatalf("%s: an error that is no *api.Fault: %#v", short(src), err)
	}
	if !whole(n, api.Node{}) {
		t.Fatalf("%s: a node beside a fault: %s", short(src), shown(n))
	}
	return n, fault
}

func wantTree(t *testing.T, src, want string) {
	t.Helper()
	n, fault := parsed(t, src)
	if fault != nil {
		t.Errorf("%s: %v", short(src), fault)
	} else if got := shown(n); got != want {
		t.Errorf("%s:\n%s, not\n%s", short(src), got, want)
	}
}

func wantFault(t *testing.T, src string, at int, e api.Errno) {
	t.Helper()
	if n, fault := parsed(t, src); fault == nil {
		t.Errorf("%s: %s, not %d at %d", short(src), shown(n), e, at)
	} else if fault.At != at || fault.Err != e {
		t.Errorf("%s: %d at %d, not %d at %d", short(src), fault.Err, fault.At, e, at)
	}
}

// wantToken: the token behind the mark ^, which is not of the source, is at fault.
func wantToken(t *testing.T, marked string) {
	t.Helper()
	ahead, behind, ok := strings.Cut(marked, "^")
	if !ok {
		t.Fatalf("no ^ in %q", marked)
	}
	blanks := len(behind) - len(strings.TrimLeft(behind, " "))
	wantFault(t, ahead+behind, len(ahead)+blanks, api.ErrParseToken)
}

// wantText: the source is read as the tree that is written so.
func wantText(t *testing.T, src, want string) {
	t.Helper()
	n, fault := parsed(t, src)
	if fault != nil {
		t.Errorf("%s: %v", short(src), fault)
		return
	}
	if got, e := tree.Text(n); got != want || e != api.OK {
		t.Errorf("%s: written as %q, %d, not %q", short(src), got, e, want)
	}
}

// wantSame: two sources are read as the same tree.
func wantSame(t *testing.T, one, other string) {
	t.Helper()
	a, fault := parsed(t, one)
	if fault != nil {
		t.Errorf("%s: %v", short(one), fault)
		return
	}
	b, fault := parsed(t, other)
	if fault != nil {
		t.Errorf("%s: %v", short(other), fault)
		return
	}
	if !tree.Same(a, b) {
		t.Errorf("%s and %s: %s and %s", short(one), short(other), shown(a), shown(b))
	}
}
