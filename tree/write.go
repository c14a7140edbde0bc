package tree

import (
	"strings"

	"drowse/api"
	"drowse/words"
)

// Text is a right file's source.
func Text(n api.Node) (string, api.Errno) {
	if e := Right(n); e != api.OK {
		return "", e
	}
	var w writer
	for _, f := range n.Kids {
		w.function(f)
	}
	return w.out.String(), api.OK
}

// writer is what is written of a right tree by then, and how far its lines are set in.
type writer struct {
	out  strings.Builder
	tabs int
}

func (w *writer) put(parts ...string) {
	for _, part := range parts {
		w.out.WriteString(part)
	}
}

func (w *writer) indent() {
	for range w.tabs {
		w.put("\t")
	}
}

// parted writes all of a list with commas between.
func (w *writer) parted(l []api.Node, write func(api.Node)) {
	for i, n := range l {
		if i > 0 {
			w.put(", ")
		}
		write(n)
	}
}

// ahead is the kids ahead of the last one, and that one.
func ahead(n api.Node) ([]api.Node, api.Node) {
	last := len(n.Kids) - 1
	return n.Kids[:last], n.Kids[last]
}

func (w *writer) function(n api.Node) {
	params, body := ahead(n)
	w.put("func ", n.Text, "(")
	w.parted(params, func(p api.Node) { w.put(p.Text, " ", p.Type) })
	w.put(") ")
	if n.Type != "" {
		w.put(n.Type, " ")
	}
	w.block(body)
	w.put("\n")
}

func (w *writer) block(n api.Node) {
	w.put("{\n")
	w.inside(n)
	w.indent()
	w.put("}")
}

// inside writes a Block's statements, a tab further in than what the Block belongs to.
func (w *writer) inside(n api.Node) {
	w.tabs++
	for _, s := range n.Kids {
		w.indent()
		w.statement(s)
		w.put("\n")
	}
	w.tabs--
}

func (w *writer) statement(n api.Node) {
	switch n.Kind {
	case api.NodeVar:
		w.variable(n)
	case api.NodeIf:
		w.choice(n)
	case api.NodeFor:
		w.loop(n)
	case api.NodeSwitch, api.NodeSelect:
		w.clauses(n)
	case api.NodeGo:
		w.put("go ")
		w.expr(n.Kids[0])
	case api.NodeReturn:
		w.result(n)
	case api.NodeBreak:
		w.put("break")
	case api.NodeContinue:
		w.put("continue")
	case api.NodeBlock:
		w.block(n)
	default:
		w.simple(n)
	}
}

// simple writes a statement that can stand in the head of a For.
func (w *writer) simple(n api.Node) {
	switch n.Kind {
	case api.NodeDefine:
		w.assign(n, ":=")
	case api.NodeAssign:
		w.assign(n, "=")
	case api.NodeStep:
		w.step(n)
	case api.NodeSend:
		w.expr(n.Kids[0])
		w.put(" ", arrow, " ")
		w.expr(n.Kids[1])
	case api.NodeDo:
		w.expr(n.Kids[0])
	}
}

func (w *writer) variable(n api.Node) {
	w.put("var ", n.Text, " ", n.Type)
	if len(n.Kids) > 0 {
		w.put(" = ")
		w.expr(n.Kids[0])
	}
}

func (w *writer) assign(n api.Node, sign string) {
	targets, value := ahead(n)
	w.parted(targets, w.expr)
	w.put(" ", sign, " ")
	w.expr(value)
}

func (w *writer) step(n api.Node) {
	w.expr(n.Kids[0])
	if n.N > 0 {
		w.put("++")
	} else {
		w.put("--")
	}
}

func (w *writer) result(n api.Node) {
	w.put("return")
	if len(n.Kids) > 0 {
		w.put(" ")
		w.expr(n.Kids[0])
	}
}

func (w *writer) choice(n api.Node) {
	w.put("if ")
	w.expr(n.Kids[0])
	w.put(" ")
	w.block(n.Kids[1])
	if len(n.Kids) > 2 {
		w.put(" else ")
		w.statement(n.Kids[2])
	}
}

func (w *writer) loop(n api.Node) {
	head, body := ahead(n)
	w.put("for ")
	switch n.N {
	case 1:
		w.expr(head[0])
		w.put(" ")
	case 2:
		w.threeParts(head)
		w.put(" ")
	case 3:
		w.rangeHead(n.Text, head)
		w.put(" ")
	}
	w.block(body)
}

func (w *writer) threeParts(head []api.Node) {
	w.simple(head[0])
	w.put(";")
	if !isNone(head[1]) {
		w.put(" ")
		w.expr(head[1])
	}
	w.put(";")
	if !isNone(head[2]) {
		w.put(" ")
		w.simple(head[2])
	}
}

func (w *writer) rangeHead(sign string, head []api.Node) {
	if sign != "" {
		w.expr(head[0])
		w.put(" ", sign, " ")
	}
	w.put("range ")
	w.expr(head[1])
}

// clauses writes a Switch or a Select.
func (w *writer) clauses(n api.Node) {
	kids := n.Kids
	if n.Kind == api.NodeSelect {
		w.put("select ")
	} else {
		w.put("switch ")
	}
	if n.N == 1 {
		w.expr(kids[0])
		w.put(" ")
		kids = kids[1:]
	}
	w.put("{\n")
	for _, kid := range kids {
		w.clause(kid)
	}
	w.indent()
	w.put("}")
}

// clause writes a Case or an Arm: its first line stands no further in than the Switch or Select.
func (w *writer) clause(n api.Node) {
	head, body := ahead(n)
	w.indent()
	switch {
	case isDefault(n):
		w.put("default")
	case n.Kind == api.NodeArm:
		w.put("case ")
		w.simple(head[0])
	default:
		w.put("case ")
		w.parted(head, w.expr)
	}
	w.put(":\n")
	w.inside(body)
}

func (w *writer) expr(n api.Node) {
	switch n.Kind {
	case api.NodeName:
		w.put(n.Text)
	case api.NodeInt:
		w.put(words.Int(n.N))
	case api.NodeBool:
		w.boolean(n)
	case api.NodeNil:
		w.put("nil")
	case api.NodeText:
		w.put(words.Quote(n.Text))
	case api.NodeUnary:
		w.unary(n)
	case api.NodeBinary:
		w.binary(n)
	case api.NodeCall:
		w.put(n.Text)
		w.arguments(n.Kids)
	case api.NodeMake:
		w.making(n)
	case api.NodeMethod:
		w.method(n)
	}
}

func (w *writer) boolean(n api.Node) {
	if n.N == 1 {
		w.put("true")
	} else {
		w.put("false")
	}
}

func (w *writer) arguments(l []api.Node) {
	w.put("(")
	w.parted(l, w.expr)
	w.put(")")
}

func (w *writer) making(n api.Node) {
	w.put("make(", n.Type)
	if len(n.Kids) > 0 {
		w.put(", ")
		w.expr(n.Kids[0])
	}
	w.put(")")
}

func (w *writer) method(n api.Node) {
	of := n.Kids[0]
	w.operand(of, of.Kind == api.NodeUnary || of.Kind == api.NodeBinary)
	w.put(".", n.Text)
	w.arguments(n.Kids[1:])
}

func (w *writer) unary(n api.Node) {
	of := n.Kids[0]
	w.put(n.Text)
	// Without brackets two signs would be taken for `++` or `--`.
	w.operand(of, of.Kind == api.NodeBinary || isSigned(n) && isSigned(of))
}

func isSigned(n api.Node) bool {
	return n.Kind == api.NodeUnary && (n.Text == "+" || n.Text == "-")
}

func (w *writer) binary(n api.Node) {
	left, right := n.Kids[0], n.Kids[1]
	// Signs that bind alike are taken from the left, so the right operand needs brackets where the left one needs none.
	w.operand(left, left.Kind == api.NodeBinary && binds(n.Text) > binds(left.Text))
	w.put(" ", n.Text, " ")
	w.operand(right, right.Kind == api.NodeBinary && binds(n.Text) >= binds(right.Text))
}

func (w *writer) operand(n api.Node, bracketed bool) {
	if bracketed {
		w.put("(")
	}
	w.expr(n)
	if bracketed {
		w.put(")")
	}
}
