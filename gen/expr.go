package gen

import (
	"strings"

	"drowse/api"
)

// expr makes what leaves an expression's value, if it has one, on the stack.
func (m *maker) expr(n *api.Node) {
	switch n.Kind {
	case api.NodeName:
		m.put(api.OpLoad, n.Slot, n)
	case api.NodeInt, api.NodeBool:
		m.code = append(m.code, api.Ins{Op: api.OpInt, A: n.N, Line: n.Line})
	case api.NodeNil:
		m.put(api.OpNil, 0, n)
	case api.NodeUnary:
		m.unary(n)
	case api.NodeBinary:
		m.binary(n)
	case api.NodeCall:
		m.call(n)
	case api.NodeMake:
		m.object(n)
	case api.NodeMethod:
		m.method(n)
	}
}

// exprs makes expressions, one after the other. (A Text, which is none, leaves nothing.)
func (m *maker) exprs(l []api.Node) {
	for i := range l {
		m.expr(&l[i])
	}
}

func (m *maker) unary(n *api.Node) {
	m.exprs(n.Kids)
	switch n.Text {
	case "-":
		m.put(api.OpNeg, 0, n)
	case "!":
		m.put(api.OpNot, 0, n)
	case "<-":
		m.put(api.OpRecv, 0, n)
	}
}

func (m *maker) binary(n *api.Node) {
	switch n.Text {
	case "&&":
		m.logic(n, api.OpUnless, 0)
	case "||":
		m.logic(n, api.OpIf, 1)
	default:
		m.exprs(n.Kids)
		m.put(sign(n.Text), 0, n)
	}
}

// logic makes a Binary whose left side may decide: skip leads past the right side then, and the value is decided.
func (m *maker) logic(n *api.Node, skip api.Op, decided int) {
	var short, end label
	m.expr(&n.Kids[0])
	m.jump(skip, &short, n)
	m.expr(&n.Kids[1])
	m.jump(api.OpJump, &end, n)
	m.here(&short)
	m.put(api.OpInt, decided, n)
	m.here(&end)
}

// sign is the instruction of a Binary's sign.
func sign(text string) api.Op {
	switch text {
	case "==":
		return api.OpEq
	case "!=":
		return api.OpNe
	case "<":
		return api.OpLt
	case "<=":
		return api.OpLe
	case ">":
		return api.OpGt
	case ">=":
		return api.OpGe
	case "+":
		return api.OpAdd
	case "-":
		return api.OpSub
	case "*":
		return api.OpMul
	case "/":
		return api.OpDiv
	}
	return api.OpRem
}

func (m *maker) call(n *api.Node) {
	m.exprs(n.Kids)
	switch n.Text {
	case "len":
		m.put(api.OpLen, 0, n)
	case "cap":
		m.put(api.OpCap, 0, n)
	case "close":
		m.put(api.OpClose, 0, n)
	case "yield":
		m.put(api.OpYield, 0, n)
	case "println":
		m.put(api.OpPrint, m.print(n.Kids), n)
	default:
		m.put(api.OpCall, n.Slot, n)
	}
}

// print is the number of a new one of the program's prints.
func (m *maker) print(kids []api.Node) int {
	var items []api.Item
	for i := range kids {
		items = append(items, item(&kids[i]))
	}
	m.program.Prints = append(m.program.Prints, items)
	return len(m.program.Prints) - 1
}

func item(n *api.Node) api.Item {
	switch {
	case n.Kind == api.NodeText:
		return api.Item{Kind: api.ItemText, Text: strings.Clone(n.Text)}
	case n.Type == "bool":
		return api.Item{Kind: api.ItemBool}
	}
	return api.Item{Kind: api.ItemInt}
}

func (m *maker) object(n *api.Node) {
	switch {
	case n.Type == "Mutex":
		m.put(api.OpMutex, 0, n)
	case n.Type == "WaitGroup":
		m.put(api.OpGroup, 0, n)
	case len(n.Kids) == 0:
		m.put(api.OpInt, 0, n)
		m.put(api.OpChan, 0, n)
	default:
		m.expr(&n.Kids[0])
		m.put(api.OpChan, 0, n)
	}
}

func (m *maker) method(n *api.Node) {
	m.exprs(n.Kids)
	switch n.Text {
	case "Lock":
		m.put(api.OpLock, 0, n)
	case "Unlock":
		m.put(api.OpUnlock, 0, n)
	case "Add":
		m.put(api.OpCount, 0, n)
	case "Done":
		m.put(api.OpInt, -1, n)
		m.put(api.OpCount, 0, n)
	case "Wait":
		m.put(api.OpWait, 0, n)
	}
}
