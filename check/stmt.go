package check

import (
	"drowse/api"
	"drowse/types"
)

// statements looks at those of a Block.
func (b *body) statements(block *api.Node) {
	own(block)
	b.sequence(block.Kids)
}

func (b *body) sequence(l []api.Node) {
	for i := range l {
		if b.fault != nil {
			return
		}
		b.statement(&l[i])
	}
}

// statement looks at a statement, or at a None, of which there is nothing to say.
func (b *body) statement(n *api.Node) {
	if n.Kind == api.NodeBlock {
		b.block(n)
		return
	}
	own(n)
	switch n.Kind {
	case api.NodeVar:
		b.declaration(n)
	case api.NodeDefine:
		b.define(n)
	case api.NodeAssign:
		b.assign(n)
	case api.NodeStep:
		b.step(n)
	case api.NodeSend:
		b.send(n)
	case api.NodeDo:
		b.do(n)
	case api.NodeIf:
		b.choice(n)
	case api.NodeFor:
		b.loop(n)
	case api.NodeSwitch:
		b.switching(n)
	case api.NodeSelect:
		b.selecting(n)
	case api.NodeGo:
		b.expr(&n.Kids[0])
	case api.NodeReturn:
		b.returning(n)
	case api.NodeBreak:
		b.want(b.loops+b.choices > 0, n.At, api.ErrCheckPlace)
	case api.NodeContinue:
		b.want(b.loops > 0, n.At, api.ErrCheckPlace)
	}
}

// block looks at a Block that is a scope; a Func's, a Case's and an Arm's are part of a wider one.
func (b *body) block(n *api.Node) {
	b.scoped(func() { b.statements(n) })
}

func (b *body) declaration(n *api.Node) {
	if len(n.Kids) > 0 {
		e := &n.Kids[0]
		b.expr(e)
		b.want(types.Assignable(e.Type, n.Type), n.At, api.ErrCheckType)
	}
	b.declare(n, n.Type)
}

func (b *body) define(n *api.Node) {
	targets, e := ahead(n)
	b.expr(e)
	// A receive, and two targets have no other, is of a type's text, or a fault itself.
	b.want(types.Right(e.Type), n.At, api.ErrCheckType)
	given := givenTo(e)
	for i := range targets {
		if targets[i].Text == blank {
			setBlank(&targets[i])
		} else {
			b.declare(&targets[i], given[i])
		}
	}
}

// givenTo is the types of what the first and the second target are given.
func givenTo(e *api.Node) [2]string { return [2]string{e.Type, boolean} }

func (b *body) assign(n *api.Node) {
	targets, e := ahead(n)
	for i := range targets {
		if targets[i].Text == blank {
			setBlank(&targets[i])
		} else {
			b.resolve(&targets[i])
		}
	}
	b.expr(e)
	given := givenTo(e)
	for i := range targets {
		b.want(takes(&targets[i], given[i]), targets[i].At, api.ErrCheckType)
	}
}

// takes tells whether a target that is resolved, or is blank, may be given something of a type.
func takes(target *api.Node, text string) bool {
	if target.Text == blank {
		return types.Right(text)
	}
	return types.Assignable(text, target.Type)
}

func (b *body) step(n *api.Node) {
	name := &n.Kids[0]
	b.resolve(name)
	b.want(name.Type == integer, name.At, api.ErrCheckType)
}

func (b *body) send(n *api.Node) {
	to, what := &n.Kids[0], &n.Kids[1]
	b.expr(to)
	b.expr(what)
	b.want(types.Sends(to.Type) && types.Assignable(what.Type, element(to.Type)), n.At, api.ErrCheckType)
}

func (b *body) do(n *api.Node) {
	e := &n.Kids[0]
	b.expr(e)
	idle := e.Kind == api.NodeCall && (e.Text == "len" || e.Text == "cap")
	b.want(!idle, n.At, api.ErrCheckType)
}

func (b *body) choice(n *api.Node) {
	b.condition(&n.Kids[0], n)
	b.sequence(n.Kids[1:])
}

// condition looks at the E of an If or a For; it is that statement which is at fault if E is no bool.
func (b *body) condition(e, of *api.Node) {
	b.expr(e)
	b.want(e.Type == boolean, of.At, api.ErrCheckType)
}

func (b *body) loop(n *api.Node) {
	b.scoped(func() {
		head, block := ahead(n)
		switch n.N {
		case 1:
			b.condition(&head[0], n)
		case 2:
			b.clauses(n)
		case 3:
			b.ranging(n)
		}
		b.loops++
		b.block(block)
		b.loops--
	})
}

// clauses looks at the head of a For with START, COND and NEXT.
func (b *body) clauses(n *api.Node) {
	start, cond, next := &n.Kids[0], &n.Kids[1], &n.Kids[2]
	b.statement(start)
	if cond.Kind != api.NodeNone {
		b.condition(cond, n)
	}
	b.statement(next)
}

// ranging looks at the head of a For with a range.
func (b *body) ranging(n *api.Node) {
	target, e := &n.Kids[0], &n.Kids[1]
	b.expr(e)
	b.want(types.Receives(e.Type), n.At, api.ErrCheckType)
	switch n.Text {
	case ":=":
		b.declare(target, element(e.Type))
	case "=":
		b.resolve(target)
		b.want(types.Assignable(element(e.Type), target.Type), target.At, api.ErrCheckType)
	}
}

func (b *body) switching(n *api.Node) {
	// Only a bool can be compared with a bool: so a Switch without E is one of bool.
	cases, of := n.Kids, boolean
	if n.N == 1 {
		e := &n.Kids[0]
		b.expr(e)
		b.want(types.Right(e.Type), n.At, api.ErrCheckType)
		cases, of = n.Kids[1:], e.Type
	}
	b.choices++
	for i := range cases {
		b.oneCase(&cases[i], of)
	}
	b.choices--
}

// oneCase looks at a Case whose Es are compared with what is of the type of.
func (b *body) oneCase(n *api.Node, of string) {
	own(n)
	b.scoped(func() {
		values, block := ahead(n)
		for i := range values {
			b.expr(&values[i])
			b.want(types.Compares(values[i].Type, of), n.At, api.ErrCheckType)
		}
		b.statements(block)
	})
}

func (b *body) selecting(n *api.Node) {
	b.want(waits(n.Kids) <= api.MaxArms, n.At, api.ErrCheckMany)
	b.choices++
	for i := range n.Kids {
		b.arm(&n.Kids[i])
	}
	b.choices--
}

// waits is how many Arms are no default.
func waits(arms []api.Node) int {
	count := 0
	for i := range arms {
		if !isDefault(&arms[i]) {
			count++
		}
	}
	return count
}

func isDefault(n *api.Node) bool { return n.N == 1 }

func (b *body) arm(n *api.Node) {
	own(n)
	b.scoped(func() {
		statement, block := ahead(n)
		b.sequence(statement)
		b.statements(block)
	})
}

func (b *body) returning(n *api.Node) {
	b.want((len(n.Kids) > 0) == (b.result != ""), n.At, api.ErrCheckCount)
	if len(n.Kids) > 0 {
		e := &n.Kids[0]
		b.expr(e)
		b.want(types.Assignable(e.Type, b.result), n.At, api.ErrCheckType)
	}
}
