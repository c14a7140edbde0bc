package tree

import (
	"drowse/api"
	"drowse/types"
	"drowse/words"
)

// arrow is the sign of a receive.
const arrow = "<-"

// Right tells whether a node is a right file.
func Right(n api.Node) api.Errno {
	switch {
	case Depth(n, api.MaxNest) > api.MaxNest:
		return api.ErrTreeNest
	case n.Kind != api.NodeFile || !fits(n) || !judged{}.allFit(n.Kids):
		return api.ErrTreeForm
	}
	return api.OK
}

// judged are the lists that have been looked at. A node answers for its own fields and for which kids it has, never for what it stands in; so a list need not be looked at again where it stands once more.
type judged map[list]struct{}

func (j judged) allFit(kids []api.Node) bool {
	if len(kids) == 0 {
		return true
	}
	if _, done := j[listOf(kids)]; done {
		return true
	}
	j[listOf(kids)] = struct{}{}
	for _, kid := range kids {
		if !fits(kid) || !j.allFit(kid.Kids) {
			return false
		}
	}
	return true
}

// fits tells whether a node is as the row of its kind says, as far as that does not hang on what its kids are made of.
func fits(n api.Node) bool {
	return textFits(n) && numberFits(n) && typeFits(n) && kidsFit(n)
}

func textFits(n api.Node) bool {
	switch n.Kind {
	case api.NodeFunc, api.NodeParam, api.NodeVar:
		return isNamed(n)
	case api.NodeName:
		return words.Name(n.Text)
	case api.NodeText:
		return true
	case api.NodeUnary:
		return isUnarySign(n.Text)
	case api.NodeBinary:
		return binds(n.Text) > 0
	case api.NodeCall:
		return isNamed(n) || isCallWord(n.Text)
	case api.NodeMethod:
		return isMethodName(n.Text)
	case api.NodeFor:
		return n.Text == "" || n.N == 3 && (n.Text == ":=" || n.Text == "=")
	}
	return n.Text == ""
}

// isNamed tells whether the Text of a node is a name by which something can be asked for.
func isNamed(n api.Node) bool { return n.Text != "_" && words.Name(n.Text) }

func isUnarySign(s string) bool {
	switch s {
	case "+", "-", "!", arrow:
		return true
	}
	return false
}

// binds tells how tight the sign of a Binary binds, from 1 on; 0 is no such sign.
func binds(s string) int {
	switch s {
	case "||":
		return 1
	case "&&":
		return 2
	case "==", "!=", "<", "<=", ">", ">=":
		return 3
	case "+", "-":
		return 4
	case "*", "/", "%":
		return 5
	}
	return 0
}

func isCallWord(s string) bool {
	switch s {
	case "len", "cap", "close", "yield", "println":
		return true
	}
	return false
}

func isMethodName(s string) bool {
	switch s {
	case "Lock", "Unlock", "Add", "Done", "Wait":
		return true
	}
	return false
}

func numberFits(n api.Node) bool {
	switch n.Kind {
	case api.NodeInt:
		return n.N >= 0
	case api.NodeBool, api.NodeSwitch, api.NodeCase, api.NodeArm:
		return n.N == 0 || n.N == 1
	case api.NodeDefine, api.NodeAssign:
		return n.N == 1 || n.N == 2
	case api.NodeStep:
		return n.N == 1 || n.N == -1
	case api.NodeFor:
		return n.N >= 0 && n.N <= 3
	}
	return n.N == 0
}

func typeFits(n api.Node) bool {
	switch n.Kind {
	case api.NodeParam, api.NodeVar, api.NodeMake:
		return types.Right(n.Type)
	case api.NodeFunc:
		return n.Type == "" || types.Right(n.Type)
	}
	return n.Type == "" || isMarked(n.Kind)
}

// kidsFit tells whether a node whose Text and N fit has kids of the kinds that its row names.
func kidsFit(n api.Node) bool {
	kids := n.Kids
	switch n.Kind {
	case api.NodeFile:
		return each(kids, isFunc)
	case api.NodeFunc:
		return endsInBlock(kids, isParam)
	case api.NodeBlock:
		return each(kids, isStatement)
	case api.NodeVar, api.NodeReturn, api.NodeMake:
		return len(kids) == 0 || match(kids, isExpr)
	case api.NodeDefine, api.NodeAssign:
		return targetsFit(n)
	case api.NodeStep:
		return match(kids, isOwnName)
	case api.NodeSend, api.NodeBinary:
		return match(kids, isExpr, isExpr)
	case api.NodeDo:
		return match(kids, isDoable)
	case api.NodeIf:
		return match(kids, isExpr, isBlock) || match(kids, isExpr, isBlock, isElse)
	case api.NodeFor:
		return headFits(n)
	case api.NodeSwitch:
		return switchFits(n)
	case api.NodeCase:
		return clauseFits(n, len(kids) > 1 && endsInBlock(kids, isExpr))
	case api.NodeSelect:
		return clausesFit(kids, api.NodeArm)
	case api.NodeArm:
		return clauseFits(n, match(kids, isComm, isBlock))
	case api.NodeGo:
		return match(kids, isNamedCall)
	case api.NodeUnary:
		return match(kids, isExpr)
	case api.NodeCall:
		return argumentsFit(n)
	case api.NodeMethod:
		return len(kids) > 0 && each(kids, isExpr)
	}
	// A kind that is none comes here too; nothing above it takes it as a kid.
	return len(kids) == 0
}

// test is something that a node is asked by its own fields, or by what its last kid is.
type test func(api.Node) bool

func each(kids []api.Node, is test) bool {
	for _, kid := range kids {
		if !is(kid) {
			return false
		}
	}
	return true
}

// match tells whether there are just as many kids as tests, and each kid meets its own.
func match(kids []api.Node, tests ...test) bool {
	if len(kids) != len(tests) {
		return false
	}
	for i, is := range tests {
		if !is(kids[i]) {
			return false
		}
	}
	return true
}

// endsInBlock tells whether the last kid is a Block, and each one ahead of it meets the test.
func endsInBlock(kids []api.Node, is test) bool {
	last := len(kids) - 1
	return last >= 0 && isBlock(kids[last]) && each(kids[:last], is)
}

func targetsFit(n api.Node) bool {
	kids := n.Kids
	if n.Kind == api.NodeDefine && len(kids) > 0 && each(kids[:len(kids)-1], isBlank) {
		return false
	}
	if n.N == 1 {
		return match(kids, isTarget, isExpr)
	}
	return match(kids, isTarget, isTarget, isReceive)
}

func headFits(n api.Node) bool {
	switch n.N {
	case 0:
		return match(n.Kids, isBlock)
	case 1:
		return match(n.Kids, isExpr, isBlock)
	case 2:
		return match(n.Kids, isStart, isCondition, isNext, isBlock)
	}
	if n.Text == "" {
		return match(n.Kids, isNone, isExpr, isBlock)
	}
	return match(n.Kids, isOwnName, isExpr, isBlock)
}

func switchFits(n api.Node) bool {
	if n.N == 0 {
		return clausesFit(n.Kids, api.NodeCase)
	}
	return len(n.Kids) > 0 && isExpr(n.Kids[0]) && clausesFit(n.Kids[1:], api.NodeCase)
}

// clausesFit tells whether all are Cases, or Arms, and at most one of them is a default.
func clausesFit(kids []api.Node, kind api.NodeKind) bool {
	defaults := 0
	for _, kid := range kids {
		if kid.Kind != kind {
			return false
		}
		if isDefault(kid) {
			defaults++
		}
	}
	return defaults <= 1
}

// clauseFits tells it of a Case or an Arm, of which is known whether its kids are those of one that is no default.
func clauseFits(n api.Node, fitsCase bool) bool {
	if isDefault(n) {
		return match(n.Kids, isBlock)
	}
	return fitsCase
}

func isDefault(n api.Node) bool { return n.N == 1 }

func argumentsFit(n api.Node) bool {
	if n.Text == "println" {
		return each(n.Kids, isItem)
	}
	return each(n.Kids, isExpr)
}

func isNone(n api.Node) bool { return n.Kind == api.NodeNone }

func isFunc(n api.Node) bool { return n.Kind == api.NodeFunc }

func isParam(n api.Node) bool { return n.Kind == api.NodeParam }

func isBlock(n api.Node) bool { return n.Kind == api.NodeBlock }

func isElse(n api.Node) bool { return n.Kind == api.NodeBlock || n.Kind == api.NodeIf }

func isTarget(n api.Node) bool { return n.Kind == api.NodeName }

func isBlank(n api.Node) bool { return n.Kind == api.NodeName && n.Text == "_" }

func isOwnName(n api.Node) bool { return n.Kind == api.NodeName && n.Text != "_" }

func isReceive(n api.Node) bool { return n.Kind == api.NodeUnary && n.Text == arrow }

func isNamedCall(n api.Node) bool { return n.Kind == api.NodeCall && isNamed(n) }

func isDoable(n api.Node) bool {
	return n.Kind == api.NodeCall || n.Kind == api.NodeMethod || isReceive(n)
}

func isItem(n api.Node) bool { return n.Kind == api.NodeText || isExpr(n) }

func isExpr(n api.Node) bool {
	return n.Kind == api.NodeMake || isMarked(n.Kind) && !isBlank(n)
}

func isStatement(n api.Node) bool {
	switch n.Kind {
	case api.NodeVar, api.NodeDefine, api.NodeAssign, api.NodeStep, api.NodeSend, api.NodeDo,
		api.NodeIf, api.NodeFor, api.NodeSwitch, api.NodeSelect, api.NodeBlock,
		api.NodeGo, api.NodeReturn, api.NodeBreak, api.NodeContinue:
		return true
	}
	return false
}

func isStart(n api.Node) bool { return n.Kind == api.NodeDefine || isNext(n) }

func isNext(n api.Node) bool {
	switch n.Kind {
	case api.NodeNone, api.NodeAssign, api.NodeStep, api.NodeSend, api.NodeDo:
		return true
	}
	return false
}

func isCondition(n api.Node) bool { return isNone(n) || isExpr(n) }

// isComm tells whether a statement is one that an Arm can wait for.
func isComm(n api.Node) bool {
	switch n.Kind {
	case api.NodeSend:
		return true
	case api.NodeDo, api.NodeDefine, api.NodeAssign:
		return len(n.Kids) > 0 && isReceive(n.Kids[len(n.Kids)-1])
	}
	return false
}
