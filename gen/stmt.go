package gen

import "drowse/api"

// sequence makes the statements of a Block.
func (m *maker) sequence(block *api.Node) {
	for i := range block.Kids {
		m.statement(&block.Kids[i])
	}
}

// statement makes a statement, or a None, of which there is nothing to make.
func (m *maker) statement(n *api.Node) {
	switch n.Kind {
	case api.NodeBlock:
		m.scoped(n, func() { m.sequence(n) })
	case api.NodeVar:
		m.variable(n)
	case api.NodeDefine, api.NodeAssign:
		m.assign(n)
	case api.NodeStep:
		m.step(n)
	case api.NodeSend:
		m.exprs(n.Kids)
		m.put(api.OpSend, 0, n)
	case api.NodeDo:
		m.do(n)
	case api.NodeIf:
		m.choice(n)
	case api.NodeFor:
		m.loop(n)
	case api.NodeSwitch:
		m.switching(n)
	case api.NodeSelect:
		m.selecting(n)
	case api.NodeGo:
		m.exprs(n.Kids[0].Kids)
		m.put(api.OpGo, n.Kids[0].Slot, n)
	case api.NodeReturn:
		m.returning(n)
	case api.NodeBreak:
		m.jump(api.OpJump, m.around.end, n)
	case api.NodeContinue:
		m.jump(api.OpJump, m.around.again, n)
	}
}

func (m *maker) variable(n *api.Node) {
	m.exprs(n.Kids)
	if len(n.Kids) == 0 {
		m.put(api.OpClear, n.Slot, n)
	} else {
		m.put(api.OpStore, n.Slot, n)
	}
	m.declare(n)
}

// assign makes a Define or an Assign.
func (m *maker) assign(n *api.Node) {
	targets, e := ahead(n)
	if len(targets) == 1 {
		m.expr(e)
	} else {
		m.exprs(e.Kids)
		m.put(api.OpRecv2, 0, e)
	}
	m.give(n, targets)
}

// give puts what lies on the stack into the targets of a Define or an Assign. Of two the second one's lies on top; where both are one variable the second one's is what stays in it.
func (m *maker) give(n *api.Node, targets []api.Node) {
	second := blank
	if len(targets) == 2 {
		second = targets[1].Slot
		m.store(second, &targets[1])
	}
	first := targets[0].Slot
	if first == second {
		first = blank
	}
	m.store(first, &targets[0])
	if n.Kind == api.NodeDefine {
		m.declareAll(targets)
	}
}

// blank is the Slot of a target that is no variable.
const blank = -1

func (m *maker) store(slot int, n *api.Node) {
	if slot == blank {
		m.put(api.OpPop, 0, n)
	} else {
		m.put(api.OpStore, slot, n)
	}
}

func (m *maker) declareAll(targets []api.Node) {
	for i := range targets {
		if targets[i].Slot != blank {
			m.declare(&targets[i])
		}
	}
}

func (m *maker) step(n *api.Node) {
	name := &n.Kids[0]
	m.put(api.OpLoad, name.Slot, n)
	m.put(api.OpInt, int(n.N), n)
	m.put(api.OpAdd, 0, n)
	m.put(api.OpStore, name.Slot, n)
}

func (m *maker) do(n *api.Node) {
	e := &n.Kids[0]
	m.expr(e)
	if e.Type != "" {
		m.put(api.OpPop, 0, n)
	}
}

func (m *maker) choice(n *api.Node) {
	var other, end label
	m.expr(&n.Kids[0])
	m.jump(api.OpUnless, &other, n)
	m.statement(&n.Kids[1])
	m.jump(api.OpJump, &end, n)
	m.here(&other)
	if len(n.Kids) == 3 {
		m.statement(&n.Kids[2])
	}
	m.here(&end)
}

func (m *maker) returning(n *api.Node) {
	m.exprs(n.Kids)
	if len(n.Kids) == 0 {
		m.put(api.OpRet, 0, n)
	} else {
		m.put(api.OpRetValue, 0, n)
	}
}
