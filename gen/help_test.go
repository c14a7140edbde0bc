package gen_test

import (
	"fmt"
	"math/rand"
	"reflect"
	"slices"
	"strings"
	"testing"

	"drowse/api"
	"drowse/check"
	"drowse/code"
	"drowse/gen"
	"drowse/parse"
	"drowse/tree"
)

// source is the same row of numbers in each run.
func source(seed int64) *rand.Rand { return rand.New(rand.NewSource(seed)) }

// roomy is limits that no test meets by chance.
func roomy() api.Limits { return api.Limits{Gos: 100, Objects: 100, Depth: 50, Out: 4000} }

func short(s string) string {
	if len(s) > 600 {
		return s[:600] + " .."
	}
	return s
}

// textOf is a tree as it is written, as far as it may be.
func textOf(n api.Node) string {
	s, e := tree.Text(n)
	if e != api.OK {
		return "(no right file)"
	}
	return short(s)
}

// checked is a source's file as check tells it.
func checked(t *testing.T, src string) api.Node {
	t.Helper()
	n, err := parse.Parse(src)
	if err != nil {
		t.Fatalf("%s: parse: %v", short(src), err)
	}
	return told(t, n)
}

// told is a tree as check tells it.
func told(t *testing.T, n api.Node) api.Node {
	t.Helper()
	file, err := check.Check(n)
	if err != nil {
		t.Fatalf("%s: check: %v", textOf(n), err)
	}
	return file
}

// made is a checked file's program, which is looked at as far as P9.1 says what it is.
func made(t *testing.T, file api.Node) api.Program {
	t.Helper()
	p, e := gen.Gen(file)
	if e != api.OK {
		t.Fatalf("%s: error %d", textOf(file), e)
	}
	if e, f, i := code.Check(p); e != api.OK {
		t.Fatalf("%s: the program is not right: %d at %d, %d\n%s", textOf(file), e, f, i, listing(p))
	}
	if len(p.Funcs) != len(file.Kids) {
		t.Fatalf("%s: %d functions", textOf(file), len(p.Funcs))
	}
	for i, n := range file.Kids {
		f := p.Funcs[i]
		if f.Name != n.Text || f.Params != len(n.Kids)-1 || f.Result != (n.Type != "") {
			t.Errorf("%s: function %d is %q with %d Params, Result %v", textOf(file), i, f.Name, f.Params, f.Result)
		}
		if (n.Text == "main") != (p.Main == i) {
			t.Errorf("%s: Main is %d, function %d is %s", textOf(file), p.Main, i, n.Text)
		}
	}
	return p
}

// listing is a program's code, a line each.
func listing(p api.Program) string {
	var b strings.Builder
	for _, f := range p.Funcs {
		fmt.Fprintf(&b, "%s, %d Params, %d Slots\n", f.Name, f.Params, f.Slots)
		for i, x := range f.Code {
			fmt.Fprintf(&b, "%4d: op %d, %d, %d, line %d\n", i, x.Op, x.A, x.B, x.Line)
		}
	}
	return short(b.String())
}

// setting is how a file is run: with which limits and lots, and in which pieces.
type setting struct {
	limits api.Limits
	lots   []api.Lot
	pieces []int
}

// played is what comes of a file, which the machine and the model must tell alike, at each pause and at the end.
func played(t *testing.T, file api.Node, p api.Program, s setting) api.Outcome {
	t.Helper()
	machine, model := machineOf(p, s.limits, s.lots), modelOf(file, s.limits, s.lots)
	defer model.leave()
	for i, beats := range s.pieces {
		if machine.out.End == api.EndMain || machine.out.End == api.EndFatal {
			break
		}
		machine.run(beats)
		model.run(beats)
		if a, b := machine.outcome(), model.outcome(); !reflect.DeepEqual(a, b) {
			t.Fatalf("%s\n%+v, piece %d: the program does\n%+v\nand the file means\n%+v", textOf(file), s, i, a, b)
		}
		if a, b := serials(machine), serials(model); !slices.Equal(a, b) {
			t.Fatalf("%s\n%+v, piece %d: ready are %v, and by the model %v", textOf(file), s, i, a, b)
		}
		if i := slices.IndexFunc(pairs(machine.reaches, model.reaches), func(p [2][]api.Handle) bool { return !slices.Equal(p[0], p[1]) }); i >= 0 {
			t.Fatalf("%s\n%+v: where an object is made for the %d. time the program's can be reached: %v, the file's: %v", textOf(file), s, i+1, machine.reaches[i], model.reaches[i])
		}
	}
	return machine.outcome()
}

func pairs(a, b [][]api.Handle) [][2][]api.Handle {
	l := make([][2][]api.Handle, min(len(a), len(b)))
	for i := range l {
		l[i] = [2][]api.Handle{a[i], b[i]}
	}
	return l
}

func serials(w *world) []int {
	var l []int
	for _, g := range w.ready {
		l = append(l, g.stat.Serial)
	}
	if w.running != nil {
		l = append(l, -w.running.stat.Serial)
	}
	return l
}

// brief is an outcome in a line: how it ends, who is asleep, what was printed, with `|` for a line's end.
func brief(o api.Outcome) string {
	s := ""
	switch o.End {
	case api.EndBeats:
		s = "pauses"
	case api.EndMain:
		s = "main"
	case api.EndFatal:
		s = fateName(o.Fate)
	}
	for _, b := range o.Blocked {
		s += fmt.Sprintf(" %d.%s@%d:%s", b.Serial, b.Func, b.Line, waitName(b.On))
	}
	return s + " [" + strings.ReplaceAll(o.Output, "\n", "|") + "]"
}

func fateName(f api.Fate) string {
	return strings.Fields("asleep sendclosed closeclosed closenil unlock nilmutex nilgroup counter divide size memory gos depth output kind")[f-api.FatalAsleep]
}

func waitName(w api.Wait) string {
	return strings.Fields("none send recv nilsend nilrecv select nocases lock group")[w]
}

// changed is a node in memory of its own, in which something was done to each node, a node ahead of its kids.
func changed(n api.Node, do func(*api.Node)) api.Node {
	do(&n)
	kids := make([]api.Node, len(n.Kids))
	for i, kid := range n.Kids {
		kids[i] = changed(kid, do)
	}
	n.Kids = kids
	return n
}

// lined is a tree in which each node has a line of its own.
func lined(n api.Node) api.Node {
	count := 0
	return changed(n, func(n *api.Node) {
		count++
		n.Line = count
	})
}
