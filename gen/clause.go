package gen

import "drowse/api"

// clauses makes the Cases of a Switch or the Arms of a Select: first, in their order, what leads to the start of the one that is chosen, or past it; then what each of them does. What begins each is made where it was come to.
func (m *maker) clauses(n *api.Node, l []api.Node, choose func(n *api.Node, start *label), begin func(n *api.Node)) {
	l = withDefault(l)
	starts := make([]label, len(l))
	other := 0
	for i := range l {
		if isDefault(&l[i]) {
			other = i
		} else {
			choose(&l[i], &starts[i])
		}
	}
	m.jump(api.OpJump, &starts[other], n)
	var end label
	for i := range l {
		m.here(&starts[i])
		m.clause(&l[i], begin)
		m.jump(api.OpJump, &end, n)
	}
	m.here(&end)
}

// clause makes a Case or an Arm. A Break leads to where its variables are cleared; a Continue is not its own.
func (m *maker) clause(n *api.Node, begin func(n *api.Node)) {
	var end label
	_, block := ahead(n)
	m.within(exits{end: &end, again: m.around.again}, func() {
		m.scoped(n, func() {
			begin(n)
			m.sequence(block)
			m.here(&end)
		})
	})
}

func isDefault(n *api.Node) bool { return n.N == 1 }

// withDefault is Cases or Arms with a default among them: one that does nothing, if there was none. (Where a Select has none nobody comes to it.)
func withDefault(l []api.Node) []api.Node {
	for i := range l {
		if isDefault(&l[i]) {
			return l
		}
	}
	nothing := api.Node{N: 1, Kids: []api.Node{{Kind: api.NodeBlock}}}
	return append(append([]api.Node(nil), l...), nothing)
}

func (m *maker) switching(n *api.Node) {
	if n.N == 0 {
		m.clauses(n, n.Kids, m.asked, func(*api.Node) {})
		return
	}
	m.expr(&n.Kids[0])
	slot := m.spare(chosen)
	m.put(api.OpStore, slot, n)
	compared := func(n *api.Node, start *label) {
		values, _ := ahead(n)
		for i := range values {
			m.put(api.OpLoad, slot, n)
			m.expr(&values[i])
			m.put(api.OpEq, 0, n)
			m.jump(api.OpIf, start, n)
		}
	}
	m.clauses(n, n.Kids[1:], compared, func(n *api.Node) { m.put(api.OpClear, slot, n) })
}

// asked makes what leads to a Case of a Switch that compares with nothing.
func (m *maker) asked(n *api.Node, start *label) {
	values, _ := ahead(n)
	for i := range values {
		m.expr(&values[i])
		m.jump(api.OpIf, start, n)
	}
}

func (m *maker) selecting(n *api.Node) {
	slot, taken := m.spare(chosen), 0
	m.offer(n)
	m.put(api.OpStore, slot, n)
	compared := func(n *api.Node, start *label) {
		m.put(api.OpLoad, slot, n)
		m.put(api.OpInt, taken, n)
		m.put(api.OpEq, 0, n)
		m.jump(api.OpIf, start, n)
		taken++
	}
	m.clauses(n, n.Kids, compared, m.receive)
}

// offer makes a Select up to its instruction, which does not wait where there is a default.
func (m *maker) offer(n *api.Node) {
	var sends []bool
	others := 0
	for i := range n.Kids {
		if isDefault(&n.Kids[i]) {
			others = 1
		} else {
			sends = append(sends, m.arm(&n.Kids[i].Kids[0]))
		}
	}
	number := len(m.program.Arms)
	m.program.Arms = append(m.program.Arms, sends)
	m.code = append(m.code, api.Ins{Op: api.OpSelect, A: int64(number), B: others, Line: n.Line})
}

// arm makes what an Arm's statement is about, and tells whether it sends.
func (m *maker) arm(n *api.Node) bool {
	if n.Kind == api.NodeSend {
		m.exprs(n.Kids)
		return true
	}
	_, receive := ahead(n)
	m.exprs(receive.Kids)
	return false
}

// receive puts the value and the bool that a select leaves on the stack into the targets of the Arm that was taken; what has no target goes.
func (m *maker) receive(n *api.Node) {
	statement, _ := ahead(n)
	targets := targetsOf(statement)
	for range 2 - len(targets) {
		m.put(api.OpPop, 0, n)
	}
	if len(targets) > 0 {
		m.give(&statement[0], targets)
	}
}

// targetsOf is the targets of an Arm's statement, if it has any; a default has no statement.
func targetsOf(statement []api.Node) []api.Node {
	if len(statement) == 0 || statement[0].Kind != api.NodeDefine && statement[0].Kind != api.NodeAssign {
		return nil
	}
	targets, _ := ahead(&statement[0])
	return targets
}
