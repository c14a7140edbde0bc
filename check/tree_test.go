package check_test

import (
	"testing"

	"drowse/api"
	"drowse/tree"
)

func node(k api.NodeKind, kids ...api.Node) api.Node { return api.Node{Kind: k, Kids: kids} }

func texted(k api.NodeKind, text string, kids ...api.Node) api.Node {
	return api.Node{Kind: k, Text: text, Kids: kids}
}

func counted(k api.NodeKind, n int64, kids ...api.Node) api.Node {
	return api.Node{Kind: k, N: n, Kids: kids}
}

func name(x string) api.Node { return texted(api.NodeName, x) }

func number(n int64) api.Node { return counted(api.NodeInt, n) }

func block(stmts ...api.Node) api.Node { return node(api.NodeBlock, stmts...) }

// unsee is the statement by which an expression's value goes.
func unsee(e api.Node) api.Node { return counted(api.NodeAssign, 1, name("_"), e) }

func function(f, of string, kids ...api.Node) api.Node {
	return api.Node{Kind: api.NodeFunc, Text: f, Type: of, Kids: kids}
}

// mainOf is the file whose main has these statements.
func mainOf(stmts ...api.Node) api.Node {
	return node(api.NodeFile, function("main", "", block(stmts...)))
}

// placed is a tree in memory of its own whose nodes stand at 100, 101, 102 .., a node ahead of its kids.
func placed(n api.Node) api.Node {
	at := 99
	return changed(n, func(n *api.Node) {
		at++
		n.At, n.Line = at, -at
	})
}

// wantAt: a tree is refused with a fault of this place.
func wantAt(t *testing.T, n api.Node, at int, e api.Errno) {
	t.Helper()
	if told, fault := checked(t, n); fault == nil {
		t.Errorf("%s: %s, not %d at %d", textOf(n), brief(told), e, at)
	} else if fault.At != at || fault.Err != e {
		t.Errorf("%s: %d at %d, not %d at %d", textOf(n), fault.Err, fault.At, e, at)
	}
}

func TestTreesThatAreNotRight(t *testing.T) {
	fine := mainOf(unsee(number(1)))
	if _, fault := checked(t, fine); fault != nil {
		t.Fatal(fault)
	}
	for _, n := range []api.Node{
		{}, block(), fine.Kids[0], node(-7), node(1000), texted(api.NodeFile, "x", fine.Kids...), counted(api.NodeFile, 1, fine.Kids...), node(api.NodeFile, number(1)),
		mainOf(number(1)), mainOf(api.Node{}), mainOf(unsee(number(-1))), mainOf(unsee(name("_"))), mainOf(unsee(name("int"))), mainOf(unsee(api.Node{Kind: api.NodeMake, Type: "chan  int"})), mainOf(api.Node{Kind: api.NodeVar, Text: "x", Type: "nil"}),
		node(api.NodeFile, function("main", "nil", block())), node(api.NodeFile, function("main", "")), node(api.NodeFile, function("_", "", block())), mainOf(node(api.NodeDo, number(1))), mainOf(counted(api.NodeDefine, 1, name("_"), number(1))),
		// There are other faults beside it, which would be told of a right one.
		mainOf(node(api.NodeBreak), number(1)), mainOf(unsee(name("x")), unsee(number(-1))), node(api.NodeFile, function("f", "", block()), function("f", "")),
		mainOf(node(api.NodeDo, texted(api.NodeCall, "println", api.Node{Kind: api.NodeText, Text: "a", Type: "int"}))),
	} {
		if tree.Right(n) != api.ErrTreeForm {
			t.Fatalf("%s is right", shown(n))
		}
		wantAt(t, n, 0, api.ErrTreeForm)
		wantAt(t, placed(n), 0, api.ErrTreeForm)
	}
}

// braced is a file of that depth: a statement of depth 1 in Blocks. The File, the Func and its Block stand above.
func braced(stmt api.Node, depth int) api.Node {
	for range depth - 4 {
		stmt = block(stmt)
	}
	return mainOf(stmt)
}

func TestNest(t *testing.T) {
	if told, fault := checked(t, braced(node(api.NodeReturn), 40)); fault != nil || tree.Depth(told, 100) != 40 {
		t.Errorf("%v", fault)
	}
	wantAt(t, placed(braced(node(api.NodeBreak), 40)), 100+39, api.ErrCheckPlace)
	wantAt(t, placed(braced(node(api.NodeReturn), 41)), 0, api.ErrTreeNest)
	wantAt(t, placed(braced(node(api.NodeBreak), 41)), 0, api.ErrTreeNest)
	wantAt(t, braced(node(api.NodeBreak), 3000), 0, api.ErrTreeNest)
	e := number(1)
	for range 35 {
		e = texted(api.NodeUnary, "-", e)
	}
	if _, fault := checked(t, mainOf(unsee(e))); fault != nil {
		t.Errorf("%v", fault)
	}
	wantAt(t, placed(mainOf(unsee(texted(api.NodeUnary, "-", e)))), 0, api.ErrTreeNest)
	// A list that stands within itself is deeper than any bound.
	round := block(node(api.NodeBreak))
	round.Kids[0] = block()
	round.Kids[0].Kids = round.Kids
	n, fault := plain(mainOf(round))
	if fault == nil || *fault != (api.Fault{Err: api.ErrTreeNest}) || n.Kind != api.NodeNone {
		t.Errorf("%v", fault)
	}
}

// TestPlacesOfFaults: nodes that parse puts at one place are told apart.
func TestPlacesOfFaults(t *testing.T) {
	boolean := counted(api.NodeBool, 1)
	step := counted(api.NodeStep, 1, name("x"))
	define := func(x string, e api.Node) api.Node { return counted(api.NodeDefine, 1, name(x), e) }
	two := func(k api.NodeKind, x, y string) api.Node {
		return counted(k, 2, name(x), name(y), texted(api.NodeUnary, "<-", api.Node{Kind: api.NodeMake, Type: "chan int"}))
	}
	call := func(f string, kids ...api.Node) api.Node { return texted(api.NodeCall, f, kids...) }
	ranged := func(sign, x string) api.Node {
		return api.Node{Kind: api.NodeFor, N: 3, Text: sign, Kids: []api.Node{name(x), {Kind: api.NodeMake, Type: "chan bool"}, block()}}
	}
	// The File is 100, main 101, its Block 102, its first statement 103.
	for _, c := range []struct {
		file api.Node
		at   int
		e    api.Errno
	}{
		{mainOf(step), 104, api.ErrCheckName},
		{mainOf(define("x", boolean), step), 107, api.ErrCheckType},
		{mainOf(define("x", number(1)), step), 104, api.ErrCheckUnused},
		{mainOf(define("x", node(api.NodeNil))), 103, api.ErrCheckType},
		{mainOf(two(api.NodeDefine, "x", "x")), 105, api.ErrCheckTwice},
		{mainOf(two(api.NodeDefine, "x", "y")), 104, api.ErrCheckUnused},
		{mainOf(two(api.NodeAssign, "_", "y")), 105, api.ErrCheckName},
		{mainOf(unsee(node(api.NodeNil))), 104, api.ErrCheckType},
		{mainOf(define("x", boolean), two(api.NodeAssign, "x", "x")), 107, api.ErrCheckType},
		{mainOf(define("x", number(1)), two(api.NodeAssign, "x", "x")), 108, api.ErrCheckType},
		{mainOf(node(api.NodeDo, call("len", number(1)))), 104, api.ErrCheckType},
		{mainOf(node(api.NodeDo, call("len", api.Node{Kind: api.NodeMake, Type: "chan int"}))), 103, api.ErrCheckType},
		{mainOf(node(api.NodeGo, call("f"))), 104, api.ErrCheckName},
		{mainOf(node(api.NodeSend, number(1), number(2))), 103, api.ErrCheckType},
		{mainOf(node(api.NodeIf, number(1), block())), 103, api.ErrCheckType},
		{mainOf(counted(api.NodeFor, 1, number(1), block())), 103, api.ErrCheckType},
		{mainOf(counted(api.NodeFor, 2, api.Node{}, number(1), api.Node{}, block())), 103, api.ErrCheckType},
		{mainOf(counted(api.NodeFor, 3, api.Node{}, number(1), block())), 103, api.ErrCheckType},
		{mainOf(ranged(":=", "x")), 104, api.ErrCheckUnused},
		{mainOf(ranged("=", "x")), 104, api.ErrCheckName},
		{mainOf(define("x", number(1)), ranged("=", "x")), 107, api.ErrCheckType},
		{mainOf(counted(api.NodeSwitch, 1, node(api.NodeNil))), 103, api.ErrCheckType},
		{mainOf(node(api.NodeSwitch, node(api.NodeCase, number(1), block()))), 104, api.ErrCheckType},
		{mainOf(node(api.NodeReturn, name("x"))), 103, api.ErrCheckCount},
		{mainOf(api.Node{Kind: api.NodeVar, Text: "x", Type: "int", Kids: []api.Node{boolean}}), 103, api.ErrCheckType},
		{mainOf(texted(api.NodeUnary, "<-", number(1))).Kids[0].Kids[0].Kids[0], 0, api.ErrTreeForm},
		{node(api.NodeFile, function("f", "", block())), 0, api.ErrCheckMain},
		{node(api.NodeFile), 0, api.ErrCheckMain},
		{node(api.NodeFile, function("f", "", block()), function("main", "int", block())), 103, api.ErrCheckMain},
		{node(api.NodeFile, function("main", "", block()), function("f", "int", block())), 103, api.ErrCheckReturn},
	} {
		wantAt(t, placed(c.file), c.at, c.e)
	}
	// A place may be any number.
	far := mainOf(node(api.NodeBreak))
	far.Kids[0].Kids[0].Kids[0].At = -1 << 40
	wantAt(t, far, -1<<40, api.ErrCheckPlace)
}

// TestSharedMemory: the kids of what is handed in may share memory; those of the answer do not.
func TestSharedMemory(t *testing.T) {
	use := unsee(texted(api.NodeBinary, "+", name("x"), name("x")))
	inner := block(counted(api.NodeDefine, 1, name("x"), number(1)), use, use)
	stmts := []api.Node{inner, inner, node(api.NodeFor, inner), block(inner, inner)}
	file := node(api.NodeFile, function("main", "", block(stmts...)), function("f", "", block(stmts...)), function("g", "", block(stmts[:2]...)))
	told, fault := checked(t, file)
	if fault != nil {
		t.Fatal(fault)
	}
	for i, want := range []int{5, 5, 2} {
		if told.Kids[i].Slot != want {
			t.Errorf("function %d: %d variables, not %d", i, told.Kids[i].Slot, want)
		}
	}
	// What lies behind a list's length is not there.
	room := make([]api.Node, 3, 8)
	copy(room, []api.Node{use, use, inner})
	rest := room[:8]
	for i := 3; i < 8; i++ {
		rest[i] = node(api.NodeBreak)
	}
	file = mainOf(counted(api.NodeDefine, 1, name("x"), number(1)))
	file.Kids[0].Kids[0].Kids = append(file.Kids[0].Kids[0].Kids, block(room...))
	file.Kids[0].Kids[0].Kids[1].Kids = room
	if _, fault := checked(t, file); fault != nil {
		t.Fatal(fault)
	}
	for i := 3; i < 8; i++ {
		if rest[i].Kind != api.NodeBreak || rest[i].Kids != nil {
			t.Errorf("what lies behind a list has changed: %s", shown(rest[i]))
		}
	}
	told, _ = checked(t, file)
	told.Kids[0].Kids[0].Kids[1].Kids = append(told.Kids[0].Kids[0].Kids[1].Kids, node(api.NodeNil))
	if rest[3].Kind != api.NodeBreak {
		t.Error("the answer reaches into what was handed in")
	}
}

// doubled is a node that stands for 2^times of itself, in little memory.
func doubled(n api.Node, times int, join func(kids ...api.Node) api.Node) api.Node {
	for range times {
		n = join(n, n)
	}
	return n
}

// TestGreatTrees: a fault is told without going through what stands behind it.
func TestGreatTrees(t *testing.T) {
	sum := func(kids ...api.Node) api.Node { return texted(api.NodeBinary, "+", kids...) }
	breaks := doubled(node(api.NodeBreak), 36, block)
	names := doubled(name("x"), 34, sum)
	numbers := unsee(doubled(number(1), 34, sum))
	for _, c := range []struct {
		file api.Node
		e    api.Errno
	}{
		{mainOf(breaks), api.ErrCheckPlace},
		{mainOf(unsee(names)), api.ErrCheckName},
		{mainOf(node(api.NodeBreak), numbers), api.ErrCheckPlace},
		{mainOf(node(api.NodeIf, number(1), block()), numbers), api.ErrCheckType},
		{mainOf(counted(api.NodeFor, 1, name("x"), block(breaks.Kids[0].Kids[0]))), api.ErrCheckName},
		{mainOf(counted(api.NodeSwitch, 1, name("x"), node(api.NodeCase, doubled(number(1), 30, sum), block()))), api.ErrCheckName},
		{node(api.NodeFile, function("f", "", block(numbers))), api.ErrCheckMain},
		{node(api.NodeFile, function("main", "int", block(numbers))), api.ErrCheckMain},
		{node(api.NodeFile, function("main", "", block(numbers)), function("main", "", block())), api.ErrCheckTwice},
		{mainOf(block(breaks)), api.ErrTreeNest},
	} {
		n, fault := plain(c.file)
		if fault == nil || fault.Err != c.e || n.Kind != api.NodeNone {
			t.Errorf("%v, not %d", fault, c.e)
		}
	}
	// One of a million nodes is gone through.
	many := mainOf(unsee(doubled(number(1), 19, sum)))
	if told, fault := plain(many); fault != nil || tree.Count(told, 1<<30) != 1<<20+4 {
		t.Errorf("%v", fault)
	}
}
