package check

import (
	"drowse/api"
	"drowse/types"
)

// The types that the language's own signs and words ask for and give.
const (
	integer = "int"
	boolean = "bool"
	mutex   = "Mutex"
	group   = "WaitGroup"
)

// untyped is the type of a Nil.
const untyped = "nil"

// expr looks at an expression, or at a Text, and lays its type down.
func (b *body) expr(n *api.Node) {
	if b.fault != nil {
		return
	}
	own(n)
	for i := range n.Kids {
		b.expr(&n.Kids[i])
	}
	switch n.Kind {
	case api.NodeName:
		b.use(n)
	case api.NodeInt:
		n.Type = integer
	case api.NodeBool:
		n.Type = boolean
	case api.NodeNil:
		n.Type = untyped
	case api.NodeUnary:
		n.Type = b.unary(n)
	case api.NodeBinary:
		n.Type = b.binary(n)
	case api.NodeCall:
		n.Type = b.call(n)
	case api.NodeMake:
		b.making(n)
	case api.NodeMethod:
		n.Type = ""
		b.method(n)
	}
}

// element is the type of what goes through a channel of that type.
func element(text string) string {
	_, elem, _ := types.Split(text)
	return elem
}

func isChan(text string) bool {
	_, _, ok := types.Split(text)
	return ok
}

func (b *body) unary(n *api.Node) string {
	of := n.Kids[0].Type
	switch n.Text {
	case "<-":
		b.want(types.Receives(of), n.At, api.ErrCheckType)
		return element(of)
	case "!":
		b.want(of == boolean, n.At, api.ErrCheckType)
		return boolean
	}
	b.want(of == integer, n.At, api.ErrCheckType)
	return integer
}

func (b *body) binary(n *api.Node) string {
	left, right := n.Kids[0].Type, n.Kids[1].Type
	switch n.Text {
	case "||", "&&":
		b.want(left == boolean && right == boolean, n.At, api.ErrCheckType)
		return boolean
	case "==", "!=":
		b.want(types.Compares(left, right), n.At, api.ErrCheckType)
		return boolean
	}
	b.want(left == integer && right == integer, n.At, api.ErrCheckType)
	switch n.Text {
	case "<", "<=", ">", ">=":
		return boolean
	}
	return integer
}

// call looks at a Call whose kids were looked at, and is its type.
func (b *body) call(n *api.Node) string {
	switch n.Text {
	case "len", "cap":
		if b.takesOne(n) {
			b.want(isChan(n.Kids[0].Type), n.At, api.ErrCheckType)
		}
		return integer
	case "close":
		if b.takesOne(n) {
			b.want(types.Sends(n.Kids[0].Type), n.At, api.ErrCheckType)
		}
		return ""
	case "yield":
		b.want(len(n.Kids) == 0, n.At, api.ErrCheckCount)
		return ""
	case "println":
		b.printing(n)
		return ""
	}
	return b.named(n)
}

func (b *body) takesOne(n *api.Node) bool {
	return b.want(len(n.Kids) == 1, n.At, api.ErrCheckCount)
}

func (b *body) printing(n *api.Node) {
	b.want(len(n.Kids) <= api.MaxItems, n.At, api.ErrCheckMany)
	for i := range n.Kids {
		b.want(isPrinted(&n.Kids[i]), n.At, api.ErrCheckType)
	}
}

func isPrinted(n *api.Node) bool {
	return n.Kind == api.NodeText || n.Type == integer || n.Type == boolean
}

// named looks at a Call of one of the file's functions, and is what that gives.
func (b *body) named(n *api.Node) string {
	_, hidden := b.find(n.Text)
	b.want(!hidden, n.At, api.ErrCheckType)
	number, known := b.numbers[n.Text]
	if !b.want(known, n.At, api.ErrCheckName) {
		return ""
	}
	f := &b.funcs[number]
	params, _ := ahead(f)
	if !b.want(len(n.Kids) == len(params), n.At, api.ErrCheckCount) {
		return ""
	}
	for i := range params {
		b.want(types.Assignable(n.Kids[i].Type, params[i].Type), n.At, api.ErrCheckType)
	}
	n.Slot = number
	return f.Type
}

// making looks at a Make; its Type is its own, and stays.
func (b *body) making(n *api.Node) {
	b.want(n.Type != integer && n.Type != boolean, n.At, api.ErrCheckType)
	if len(n.Kids) > 0 {
		b.want(isChan(n.Type), n.At, api.ErrCheckCount)
		b.want(n.Kids[0].Type == integer, n.At, api.ErrCheckType)
	}
}

func (b *body) method(n *api.Node) {
	of, given := n.Kids[0].Type, n.Kids[1:]
	b.want(of == owner(n.Text), n.At, api.ErrCheckType)
	if n.Text != "Add" {
		b.want(len(given) == 0, n.At, api.ErrCheckCount)
		return
	}
	if b.want(len(given) == 1, n.At, api.ErrCheckCount) {
		b.want(given[0].Type == integer, n.At, api.ErrCheckType)
	}
}

// owner is the type that has a method.
func owner(method string) string {
	switch method {
	case "Lock", "Unlock":
		return mutex
	}
	return group
}
