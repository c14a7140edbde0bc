package gen

import "drowse/api"

func (m *maker) loop(n *api.Node) {
	head, block := ahead(n)
	m.scoped(n, func() {
		switch n.N {
		case 0:
			m.turns(n, block, nil, nil)
		case 1:
			m.turns(n, block, &head[0], nil)
		case 2:
			m.statement(&head[0])
			m.turns(n, block, given(&head[1]), &head[2])
		case 3:
			m.ranging(n)
		}
	})
}

// given is a node, or nil, if that is a None.
func given(n *api.Node) *api.Node {
	if n.Kind == api.NodeNone {
		return nil
	}
	return n
}

// turns makes the turns of a For that is no range: with a condition and with what is done behind each turn, where there are such.
func (m *maker) turns(n, block, condition, next *api.Node) {
	var end label
	first := len(m.code)
	m.put(api.OpBeat, 0, n)
	if condition != nil {
		m.expr(condition)
		m.jump(api.OpUnless, &end, n)
	}
	m.turn(block, &end)
	if next != nil {
		m.statement(next)
	}
	m.put(api.OpJump, first, n)
	m.here(&end)
}

// turn makes the Block of a For. A Continue leads to where its variables are cleared: what is done between turns finds them so.
func (m *maker) turn(block *api.Node, end *label) {
	var again label
	m.within(exits{end: end, again: &again}, func() {
		m.scoped(block, func() {
			m.sequence(block)
			m.here(&again)
		})
	})
}

// ranging makes a For over a channel, which it holds in a slot.
func (m *maker) ranging(n *api.Node) {
	var over, end label
	target, channel, block := &n.Kids[0], &n.Kids[1], &n.Kids[2]
	m.expr(channel)
	slot := m.spare(held + m.loops)
	m.put(api.OpStore, slot, n)
	first := len(m.code)
	m.put(api.OpBeat, 0, n)
	m.put(api.OpLoad, slot, n)
	m.put(api.OpRecv2, 0, n)
	m.jump(api.OpUnless, &over, n)
	m.aim(n, target)
	m.loops++
	m.turn(block, &end)
	m.loops--
	m.put(api.OpJump, first, n)
	m.here(&over)
	m.put(api.OpPop, 0, n)
	m.here(&end)
	m.put(api.OpClear, slot, n)
}

// aim puts what a For over a channel was given into its target, if there is one.
func (m *maker) aim(n, target *api.Node) {
	switch n.Text {
	case "":
		m.put(api.OpPop, 0, n)
	case "=":
		m.put(api.OpStore, target.Slot, n)
	case ":=":
		m.put(api.OpStore, target.Slot, n)
		m.declare(target)
	}
}
