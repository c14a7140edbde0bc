package check

import "drowse/api"

// blank is the name that declares nothing, and of which no variable is spoken.
const blank = "_"

// blankSlot is the Slot of a target that is blank.
const blankSlot = -1

// variable is what is known of a variable: its type's text, where it was declared, whether an expression speaks of it.
type variable struct {
	text string
	at   int
	used bool
}

// body is what is known of a function while its statements are gone through: its variables by their slots; the scopes around, the nearest last, each with its names' slots; how many Fors, and how many Switches and Selects, stand around.
type body struct {
	*checker
	result         string
	vars           []variable
	scopes         []map[string]int
	loops, choices int
}

// scoped does what stands in a scope of its own.
func (b *body) scoped(inside func()) {
	b.scopes = append(b.scopes, map[string]int{})
	inside()
	b.scopes = b.scopes[:len(b.scopes)-1]
}

// declare makes a variable of a Param, a Var or a target. What it is given is to be looked at before: there its name is not seen yet.
func (b *body) declare(n *api.Node, text string) {
	scope := b.scopes[len(b.scopes)-1]
	_, twice := scope[n.Text]
	b.want(!twice, n.At, api.ErrCheckTwice)
	if !b.want(len(b.vars) < api.MaxVars, n.At, api.ErrCheckMany) {
		return
	}
	n.Type, n.Slot = text, len(b.vars)
	scope[n.Text] = n.Slot
	b.vars = append(b.vars, variable{text: text, at: n.At})
}

// find is the slot of the variable that is seen under a name.
func (b *body) find(name string) (int, bool) {
	for i := len(b.scopes) - 1; i >= 0; i-- {
		if slot, ok := b.scopes[i][name]; ok {
			return slot, true
		}
	}
	return 0, false
}

// resolve lays down of which variable a Name speaks, and tells whether there is one.
func (b *body) resolve(n *api.Node) bool {
	slot, ok := b.find(n.Text)
	if !b.want(ok, n.At, api.ErrCheckName) {
		return false
	}
	n.Type, n.Slot = b.vars[slot].text, slot
	return true
}

// use is resolve of a Name that is an expression.
func (b *body) use(n *api.Node) {
	if b.resolve(n) {
		b.vars[n.Slot].used = true
	}
}

// setBlank lays down that a target is no variable's.
func setBlank(n *api.Node) { n.Type, n.Slot = "", blankSlot }
