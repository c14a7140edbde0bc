package parse

import (
	"slices"

	"drowse/api"
)

func (p *parser) block() api.Node {
	n := node(api.NodeBlock, p.expect("{"))
	n.Kids = p.list()
	p.expect("}")
	return n
}

// list reads statements up to where a list of them can end; whether this one ends so is for what it stands in to say.
func (p *parser) list() []api.Node {
	var l []api.Node
	p.passSemis()
	for !p.endsList() {
		l = append(l, p.statement())
		if !p.passSemis() {
			break
		}
	}
	return l
}

func (p *parser) endsList() bool {
	switch mark(p.look()) {
	case "}", "case", "default":
		return true
	}
	return false
}

func (p *parser) statement() api.Node {
	switch mark(p.look()) {
	case "var":
		return p.variable()
	case "if":
		return p.choice()
	case "for":
		return p.loop()
	case "switch":
		return p.switching()
	case "select":
		return p.selecting()
	case "go":
		return p.starting()
	case "return":
		return p.result()
	case "break":
		return node(api.NodeBreak, p.take())
	case "continue":
		return node(api.NodeContinue, p.take())
	case "{":
		return p.block()
	}
	return p.simple(inList)
}

func (p *parser) variable() api.Node {
	n := node(api.NodeVar, p.expect("var"))
	n.Text = p.name().Text
	n.Type = p.typeText()
	if p.accept("=") {
		n.Kids = []api.Node{p.expr()}
	}
	return n
}

func (p *parser) choice() api.Node {
	n := node(api.NodeIf, p.expect("if"))
	n.Kids = []api.Node{p.expr(), p.block()}
	if !p.accept("else") {
		return n
	}
	if p.is("if") {
		n.Kids = append(n.Kids, p.choice())
	} else {
		n.Kids = append(n.Kids, p.block())
	}
	return n
}

func (p *parser) starting() api.Node {
	n := node(api.NodeGo, p.expect("go"))
	f := p.name()
	n.Kids = []api.Node{signed(api.NodeCall, f, p.bracketed(p.expr)...)}
	return n
}

func (p *parser) result() api.Node {
	n := node(api.NodeReturn, p.expect("return"))
	if !p.isSemi() && !p.endsList() {
		n.Kids = []api.Node{p.expr()}
	}
	return n
}

func (p *parser) switching() api.Node {
	n := node(api.NodeSwitch, p.expect("switch"))
	if !p.is("{") {
		n.N = 1
		n.Kids = []api.Node{p.expr()}
	}
	n.Kids = append(n.Kids, p.clauses(api.NodeCase, p.values)...)
	return n
}

// values reads what stands behind the `case` of a Switch.
func (p *parser) values() []api.Node { return p.parted(p.expr) }

func (p *parser) selecting() api.Node {
	n := node(api.NodeSelect, p.expect("select"))
	n.Kids = p.clauses(api.NodeArm, p.comm)
	return n
}

// comm reads what stands behind the `case` of a Select.
func (p *parser) comm() []api.Node { return []api.Node{p.simple(inArm)} }

// clauses reads all Cases or Arms; head reads what stands behind `case`.
func (p *parser) clauses(kind api.NodeKind, head func() []api.Node) []api.Node {
	var l []api.Node
	p.expect("{")
	for !p.accept("}") {
		n := node(kind, p.look())
		switch {
		case p.accept("case"):
			n.Kids = head()
		case p.is("default") && !slices.ContainsFunc(l, isDefault):
			p.take()
			n.N = 1
		default:
			panic(p.wrong())
		}
		body := node(api.NodeBlock, p.expect(":"))
		body.Kids = p.list()
		n.Kids = append(n.Kids, body)
		l = append(l, n)
	}
	return l
}

func isDefault(n api.Node) bool { return n.N == 1 }
