package parse

import "drowse/api"

// arrow is the sign of a receive, of a send, and of a channel's direction.
const arrow = "<-"

// loosest is how tight the sign binds that binds least.
const loosest = 1

// binds tells how tight a sign between two expressions binds; 0 is no such sign.
func binds(t api.Token) int {
	switch mark(t) {
	case "||":
		return loosest
	case "&&":
		return 2
	case "==", "!=", "<", "<=", ">", ">=":
		return 3
	case "+", "-":
		return 4
	case "*", "/", "%":
		return 5
	}
	return 0
}

func (p *parser) expr() api.Node { return p.binary(loosest) }

// binary reads an expression up to the first sign, outside of brackets, that binds less tight than least.
func (p *parser) binary(least int) api.Node {
	left := p.unary()
	for binds(p.look()) >= least {
		sign := p.take()
		// The same sign again is left to this loop: what stands to the left goes together.
		right := p.binary(binds(sign) + 1)
		left = signed(api.NodeBinary, sign, left, right)
	}
	return left
}

// signed is a node whose Text is the sign or the name where it stands.
func signed(kind api.NodeKind, t api.Token, kids ...api.Node) api.Node {
	n := node(kind, t, kids...)
	n.Text = t.Text
	return n
}

func (p *parser) unary() api.Node {
	switch mark(p.look()) {
	case "+", "-", "!", arrow:
		sign := p.take()
		return signed(api.NodeUnary, sign, p.unary())
	}
	return p.primary()
}

// receive reads a receive that stands without brackets.
func (p *parser) receive() api.Node {
	if !p.is(arrow) {
		panic(p.wrong())
	}
	return p.unary()
}

func isReceive(n api.Node) bool { return n.Kind == api.NodeUnary && n.Text == arrow }

// isDoable tells whether an expression can be a statement.
func isDoable(n api.Node) bool {
	return n.Kind == api.NodeCall || n.Kind == api.NodeMethod || isReceive(n)
}

func (p *parser) primary() api.Node {
	n := p.operand()
	for p.is(".") {
		n = p.method(n)
	}
	return n
}

func (p *parser) method(of api.Node) api.Node {
	n := node(api.NodeMethod, p.expect("."), of)
	if !isMethodName(p.look()) {
		panic(p.wrong())
	}
	n.Text = p.take().Text
	n.Kids = append(n.Kids, p.bracketed(p.expr)...)
	return n
}

func isMethodName(t api.Token) bool {
	if t.Kind != api.TokenName {
		return false
	}
	switch t.Text {
	case "Lock", "Unlock", "Add", "Done", "Wait":
		return true
	}
	return false
}

// operand reads a primary expression without the methods that are called behind it.
func (p *parser) operand() api.Node {
	switch p.look().Kind {
	case api.TokenName:
		return p.nameOrCall()
	case api.TokenInt:
		t := p.take()
		n := node(api.NodeInt, t)
		n.N = t.N
		return n
	}
	switch mark(p.look()) {
	case "true":
		n := node(api.NodeBool, p.take())
		n.N = 1
		return n
	case "false":
		return node(api.NodeBool, p.take())
	case "nil":
		return node(api.NodeNil, p.take())
	case "(":
		p.take()
		inner := p.expr()
		p.expect(")")
		return inner
	case "len", "cap", "close", "yield":
		return p.call(p.expr)
	case "println":
		return p.call(p.item)
	case "make":
		return p.making()
	}
	panic(p.wrong())
}

func (p *parser) nameOrCall() api.Node {
	if mark(p.tokens[p.next+1]) == "(" && !isBlank(p.look()) {
		return p.call(p.expr)
	}
	return nameNode(p.name())
}

// call reads a call of the name or word that comes next.
func (p *parser) call(read func() api.Node) api.Node {
	t := p.take()
	return signed(api.NodeCall, t, p.bracketed(read)...)
}

// item reads one that a println tells.
func (p *parser) item() api.Node {
	if p.look().Kind == api.TokenText {
		t := p.take()
		return signed(api.NodeText, t)
	}
	return p.expr()
}

func (p *parser) making() api.Node {
	n := node(api.NodeMake, p.expect("make"))
	p.expect("(")
	n.Type = p.typeText()
	if p.accept(",") {
		n.Kids = []api.Node{p.expr()}
	}
	p.expect(")")
	return n
}
