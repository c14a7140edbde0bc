package parse

import "drowse/api"

// where is a place at which a simple statement stands: not each one may stand at each.
type where int

const (
	inList where = iota // among statements, or at a For's start
	atNext              // as a For's last one: no Define
	inArm               // as an Arm's: it sends or receives
)

func (p *parser) simple(at where) api.Node {
	if p.isTarget() {
		return p.setting(at)
	}
	first := p.look()
	return p.sendOrDo(at, first, p.expr())
}

// isTarget tells whether a name comes next that is set, not asked. A blank is never asked, whatever stands behind it.
func (p *parser) isTarget() bool {
	t := p.look()
	if t.Kind != api.TokenName {
		return false
	}
	switch mark(p.tokens[p.next+1]) {
	case ":=", "=", ",", "++", "--":
		return true
	}
	return isBlank(t)
}

// sendOrDo is the statement that begins with the token first and the expression e, which has been read.
func (p *parser) sendOrDo(at where, first api.Token, e api.Node) api.Node {
	if p.is(arrow) {
		n := node(api.NodeSend, p.take(), e)
		n.Kids = append(n.Kids, p.expr())
		return n
	}
	if !isDoable(e) || at == inArm && !isReceive(e) {
		panic(p.wrong())
	}
	return node(api.NodeDo, first, e)
}

// setting reads a Define, an Assign or a Step.
func (p *parser) setting(at where) api.Node {
	target := p.blank()
	if p.accept(",") {
		return p.settingTwo(at, target)
	}
	switch mark(p.look()) {
	case "++":
		return p.step(at, target, 1)
	case "--":
		return p.step(at, target, -1)
	}
	n := node(p.settingKind(at, isBlank(target)), target, nameNode(target))
	n.N = 1
	n.Kids = append(n.Kids, p.value(at))
	return n
}

func (p *parser) settingTwo(at where, first api.Token) api.Node {
	second := p.blank()
	kind := p.settingKind(at, isBlank(first) && isBlank(second))
	n := node(kind, first, nameNode(first), nameNode(second))
	n.N = 2
	n.Kids = append(n.Kids, p.receive())
	return n
}

// settingKind takes the sign behind the targets, and tells what it makes; blank says that they are all blank.
func (p *parser) settingKind(at where, blank bool) api.NodeKind {
	if !blank && at != atNext && p.accept(":=") {
		return api.NodeDefine
	}
	p.expect("=")
	return api.NodeAssign
}

// value reads what a single target is set to.
func (p *parser) value(at where) api.Node {
	if at == inArm {
		return p.receive()
	}
	return p.expr()
}

func (p *parser) step(at where, target api.Token, by int64) api.Node {
	if at == inArm || isBlank(target) {
		panic(p.wrong())
	}
	p.take()
	n := node(api.NodeStep, target, nameNode(target))
	n.N = by
	return n
}

func (p *parser) loop() api.Node {
	n := node(api.NodeFor, p.expect("for"))
	switch {
	case p.is("{"):
	case p.isRange():
		p.rangeHead(&n)
	default:
		p.head(&n)
	}
	n.Kids = append(n.Kids, p.block())
	return n
}

// isRange tells whether the head of a For that comes next goes over a channel.
func (p *parser) isRange() bool {
	if p.is("range") {
		return true
	}
	if p.look().Kind != api.TokenName || isBlank(p.look()) {
		return false
	}
	sign := mark(p.tokens[p.next+1])
	return (sign == ":=" || sign == "=") && mark(p.tokens[p.next+2]) == "range"
}

func (p *parser) rangeHead(n *api.Node) {
	n.N = 3
	target := api.Node{}
	if !p.is("range") {
		target = nameNode(p.name())
		n.Text = p.take().Text
	}
	p.expect("range")
	n.Kids = []api.Node{target, p.expr()}
}

// head reads a For's condition, or its three parts.
func (p *parser) head(n *api.Node) {
	start := api.Node{}
	switch {
	case p.isSemi():
	case p.isTarget():
		start = p.setting(inList)
	default:
		first := p.look()
		e := p.expr()
		if p.is("{") {
			n.N = 1
			n.Kids = []api.Node{e}
			return
		}
		start = p.sendOrDo(inList, first, e)
	}
	p.expectSemi()
	n.N = 2
	n.Kids = []api.Node{start, p.condition(), p.nextPart()}
}

// condition reads a For's second part, and the semicolon behind it.
func (p *parser) condition() api.Node {
	n := api.Node{}
	if !p.isSemi() {
		n = p.expr()
	}
	p.expectSemi()
	return n
}

// nextPart reads a For's third part.
func (p *parser) nextPart() api.Node {
	if p.is("{") {
		return api.Node{}
	}
	return p.simple(atNext)
}
