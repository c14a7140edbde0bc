package check

import "drowse/api"

// ends tells whether nothing is done behind a statement, whatever happens in it.
func ends(n *api.Node) bool {
	switch n.Kind {
	case api.NodeReturn:
		return true
	case api.NodeBlock:
		last := len(n.Kids) - 1
		return last >= 0 && ends(&n.Kids[last])
	case api.NodeIf:
		return len(n.Kids) == 3 && ends(&n.Kids[1]) && ends(&n.Kids[2])
	case api.NodeFor:
		return goesOn(n) && !isLeft(n)
	case api.NodeSwitch:
		return hasDefault(n) && clausesEnd(n) && !isLeft(n)
	case api.NodeSelect:
		return clausesEnd(n) && !isLeft(n)
	}
	return false
}

// goesOn tells whether a For has no condition by which it could end.
func goesOn(n *api.Node) bool {
	return n.N == 0 || n.N == 2 && n.Kids[1].Kind == api.NodeNone
}

// clausesOf is the Cases of a Switch, the Arms of a Select.
func clausesOf(n *api.Node) []api.Node {
	if n.Kind == api.NodeSwitch && n.N == 1 {
		return n.Kids[1:]
	}
	return n.Kids
}

func hasDefault(n *api.Node) bool {
	clauses := clausesOf(n)
	for i := range clauses {
		if isDefault(&clauses[i]) {
			return true
		}
	}
	return false
}

func clausesEnd(n *api.Node) bool {
	clauses := clausesOf(n)
	for i := range clauses {
		if _, block := ahead(&clauses[i]); !ends(block) {
			return false
		}
	}
	return true
}

// isLeft tells whether a Break speaks of a For, a Switch or a Select.
func isLeft(n *api.Node) bool {
	for i := range n.Kids {
		if leaves(&n.Kids[i]) {
			return true
		}
	}
	return false
}

// leaves tells whether a Break in n speaks of what stands around n: those in a For, a Switch or a Select speak of that.
func leaves(n *api.Node) bool {
	switch n.Kind {
	case api.NodeBreak:
		return true
	case api.NodeBlock, api.NodeIf, api.NodeCase, api.NodeArm:
		return isLeft(n)
	}
	return false
}
