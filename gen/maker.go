package gen

import "drowse/api"

// maker makes a function's code. Ahead of and behind each statement its stack is empty.
type maker struct {
	program   *api.Program
	code      []api.Ins
	declared  int // how many variables were declared so far: these have the first slots
	variables int // how many there are in all
	slots     int
	loops     int // how many Fors over channels stand around
	around    exits
}

// exits is where a Break and a Continue lead to.
type exits struct{ end, again *label }

// label is a place in the code that is not known while jumps to it are made.
type label struct{ jumps []int }

// put makes an instruction that comes of a node.
func (m *maker) put(op api.Op, a int, n *api.Node) {
	m.code = append(m.code, api.Ins{Op: op, A: int64(a), Line: n.Line})
}

// jump makes an instruction that leads to a label.
func (m *maker) jump(op api.Op, to *label, n *api.Node) {
	to.jumps = append(to.jumps, len(m.code))
	m.put(op, 0, n)
}

// here says that a label's place is that of the next instruction.
func (m *maker) here(l *label) {
	for _, at := range l.jumps {
		m.code[at].A = int64(len(m.code))
	}
}

// The slots behind the variables are for what is no variable.
const (
	chosen = iota // what a Switch holds, or which arm a Select has taken: no other one needs it before that is known
	held          // the channels that Fors hold, each For's behind that of the For around it
)

// spare is such a slot.
func (m *maker) spare(number int) int {
	slot := m.variables + number
	m.slots = max(m.slots, slot+1)
	return slot
}

// scoped makes what stands in a scope of its own. All that was declared there, in scopes within it too, is nothing behind it: a Break and a Continue pass the ends of those scopes by.
func (m *maker) scoped(n *api.Node, inside func()) {
	first := m.declared
	inside()
	for slot := first; slot < m.declared; slot++ {
		m.put(api.OpClear, slot, n)
	}
}

// within makes what stands between exits of its own.
func (m *maker) within(around exits, inside func()) {
	outer := m.around
	m.around = around
	inside()
	m.around = outer
}

// declare says that a variable is there from now on.
func (m *maker) declare(n *api.Node) { m.declared = n.Slot + 1 }
