package parse_test

import (
	"math/rand"
	"slices"
	"strings"

	"drowse/api"
	"drowse/types"
)

// grower makes right trees, without places, of which just the depth may be too great.
type grower struct {
	r    *rand.Rand
	left int // how many nodes it may still add where it has a choice
}

func (g *grower) one(l ...string) string { return l[g.r.Intn(len(l))] }

func (g *grower) name() string {
	return g.one("a", "b", "c", "x", "_x", "__", "Lock", "main", strings.Repeat("n", 30))
}

func (g *grower) typeText() string {
	t := g.one("int", "bool", "Mutex", "WaitGroup")
	for range g.r.Intn(4) {
		t, _ = types.Chan(g.r.Intn(3), t)
	}
	return t
}

// some is up to most of them, fewer when there is no room.
func (g *grower) some(most int, grow func() api.Node) []api.Node {
	var l []api.Node
	for range g.r.Intn(most + 1) {
		if g.left > 0 {
			l = append(l, grow())
		}
	}
	return l
}

func (g *grower) nameNode() api.Node { return api.Node{Kind: api.NodeName, Text: g.name()} }

func (g *grower) leaf() api.Node {
	switch g.r.Intn(6) {
	case 0:
		return api.Node{Kind: api.NodeInt, N: []int64{0, 7, 1<<63 - 1}[g.r.Intn(3)]}
	case 1:
		return api.Node{Kind: api.NodeBool, N: int64(g.r.Intn(2))}
	case 2:
		return api.Node{Kind: api.NodeNil}
	}
	return g.nameNode()
}

func (g *grower) expr() api.Node {
	g.left--
	if g.left < 0 {
		return g.leaf()
	}
	switch g.r.Intn(9) {
	case 0, 1:
		return api.Node{Kind: api.NodeUnary, Text: g.one("+", "-", "!", "<-"), Kids: []api.Node{g.expr()}}
	case 2, 3, 4:
		sign := g.one("||", "&&", "==", "!=", "<", "<=", ">", ">=", "+", "-", "*", "/", "%")
		return api.Node{Kind: api.NodeBinary, Text: sign, Kids: []api.Node{g.expr(), g.expr()}}
	case 5:
		return api.Node{Kind: api.NodeMake, Type: g.typeText(), Kids: g.some(1, g.expr)}
	case 6:
		return g.method()
	case 7:
		return g.call()
	}
	return g.leaf()
}

func (g *grower) receive() api.Node {
	return api.Node{Kind: api.NodeUnary, Text: "<-", Kids: []api.Node{g.expr()}}
}

func (g *grower) method() api.Node {
	return api.Node{Kind: api.NodeMethod, Text: g.one("Lock", "Unlock", "Add", "Done", "Wait"), Kids: append([]api.Node{g.expr()}, g.some(2, g.expr)...)}
}

func (g *grower) call() api.Node {
	switch g.r.Intn(3) {
	case 0:
		return api.Node{Kind: api.NodeCall, Text: "println", Kids: g.some(4, g.item)}
	case 1:
		return api.Node{Kind: api.NodeCall, Text: g.one("len", "cap", "close", "yield"), Kids: g.some(2, g.expr)}
	}
	return api.Node{Kind: api.NodeCall, Text: g.name(), Kids: g.some(3, g.expr)}
}

func (g *grower) item() api.Node {
	if g.r.Intn(2) == 0 {
		return g.expr()
	}
	return api.Node{Kind: api.NodeText, Text: g.one("", "a", "(", "}", "\n", "\"\\\t", "// a", "\x00\xff")}
}

func (g *grower) block() api.Node { return api.Node{Kind: api.NodeBlock, Kids: g.some(4, g.stmt)} }

// setting is a Define or an Assign; of an Arm the value is a receive.
func (g *grower) setting(kind api.NodeKind, arm bool) api.Node {
	n := api.Node{Kind: kind, N: int64(1 + g.r.Intn(2))}
	for range n.N {
		n.Kids = append(n.Kids, g.nameNode())
	}
	blanks := n.N
	if kind == api.NodeDefine {
		blanks--
	}
	for range blanks {
		if g.r.Intn(3) == 0 {
			n.Kids[g.r.Intn(int(n.N))].Text = "_"
		}
	}
	if n.N == 2 || arm {
		n.Kids = append(n.Kids, g.receive())
	} else {
		n.Kids = append(n.Kids, g.expr())
	}
	return n
}

func (g *grower) send() api.Node {
	return api.Node{Kind: api.NodeSend, Kids: []api.Node{g.expr(), g.expr()}}
}

// next is a Simple that is no Define.
func (g *grower) next() api.Node {
	switch g.r.Intn(4) {
	case 0:
		return g.setting(api.NodeAssign, false)
	case 1:
		return api.Node{Kind: api.NodeStep, N: int64(2*g.r.Intn(2) - 1), Kids: []api.Node{g.nameNode()}}
	case 2:
		return g.send()
	}
	return api.Node{Kind: api.NodeDo, Kids: []api.Node{[]func() api.Node{g.call, g.method, g.receive}[g.r.Intn(3)]()}}
}

func (g *grower) simple() api.Node {
	if g.r.Intn(3) == 0 {
		return g.setting(api.NodeDefine, false)
	}
	return g.next()
}

func (g *grower) stmt() api.Node {
	g.left--
	switch g.r.Intn(12) {
	case 0:
		return api.Node{Kind: api.NodeVar, Text: g.name(), Type: g.typeText(), Kids: g.some(1, g.expr)}
	case 1:
		return g.choice()
	case 2, 3:
		return g.loop()
	case 4:
		return g.switching()
	case 5:
		return api.Node{Kind: api.NodeSelect, Kids: g.clauses(api.NodeArm)}
	case 6:
		return api.Node{Kind: api.NodeGo, Kids: []api.Node{{Kind: api.NodeCall, Text: g.name(), Kids: g.some(3, g.expr)}}}
	case 7:
		return api.Node{Kind: api.NodeReturn, Kids: g.some(1, g.expr)}
	case 8:
		return api.Node{Kind: []api.NodeKind{api.NodeBreak, api.NodeContinue}[g.r.Intn(2)]}
	case 9:
		return g.block()
	}
	return g.simple()
}

func (g *grower) choice() api.Node {
	n := api.Node{Kind: api.NodeIf, Kids: []api.Node{g.expr(), g.block()}}
	switch g.r.Intn(3) {
	case 0:
		n.Kids = append(n.Kids, g.block())
	case 1:
		n.Kids = append(n.Kids, g.choice())
	}
	return n
}

// perhaps is it or nothing.
func (g *grower) perhaps(grow func() api.Node) api.Node {
	if g.r.Intn(2) == 0 {
		return api.Node{}
	}
	return grow()
}

func (g *grower) loop() api.Node {
	n := api.Node{Kind: api.NodeFor, N: int64(g.r.Intn(4))}
	switch n.N {
	case 1:
		n.Kids = []api.Node{g.expr()}
	case 2:
		n.Kids = []api.Node{g.perhaps(g.simple), g.perhaps(g.expr), g.perhaps(g.next)}
	case 3:
		n.Text = g.one("", ":=", "=")
		n.Kids = []api.Node{{}, g.expr()}
		if n.Text != "" {
			n.Kids[0] = g.nameNode()
		}
	}
	n.Kids = append(n.Kids, g.block())
	return n
}

func (g *grower) switching() api.Node {
	n := api.Node{Kind: api.NodeSwitch, N: int64(g.r.Intn(2))}
	if n.N == 1 {
		n.Kids = []api.Node{g.expr()}
	}
	n.Kids = append(n.Kids, g.clauses(api.NodeCase)...)
	return n
}

func (g *grower) clauses(kind api.NodeKind) []api.Node {
	l := g.some(3, func() api.Node {
		n := api.Node{Kind: kind}
		if kind == api.NodeArm {
			n.Kids = []api.Node{g.comm()}
		} else {
			n.Kids = append([]api.Node{g.expr()}, g.some(2, g.expr)...)
		}
		n.Kids = append(n.Kids, g.block())
		return n
	})
	if g.r.Intn(2) == 0 {
		l = slices.Insert(l, g.r.Intn(len(l)+1), api.Node{Kind: kind, N: 1, Kids: []api.Node{g.block()}})
	}
	return l
}

func (g *grower) comm() api.Node {
	switch g.r.Intn(4) {
	case 0:
		return g.send()
	case 1:
		return api.Node{Kind: api.NodeDo, Kids: []api.Node{g.receive()}}
	case 2:
		return g.setting(api.NodeDefine, true)
	}
	return g.setting(api.NodeAssign, true)
}

func (g *grower) function() api.Node {
	n := api.Node{Kind: api.NodeFunc, Text: g.name()}
	if g.r.Intn(2) == 0 {
		n.Type = g.typeText()
	}
	n.Kids = g.some(3, func() api.Node { return api.Node{Kind: api.NodeParam, Text: g.name(), Type: g.typeText()} })
	n.Kids = append(n.Kids, g.block())
	return n
}

func (g *grower) file() api.Node { return api.Node{Kind: api.NodeFile, Kids: g.some(4, g.function)} }
