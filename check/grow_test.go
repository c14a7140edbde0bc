package check_test

import (
	"math/rand"
	"slices"
	"strconv"

	"drowse/api"
	"drowse/types"
)

// known is a variable or a function as a grower knows it.
type known struct {
	text, of string
	params   []string
}

// grower grows files that are mostly accepted: it keeps what is seen, and puts in what is of the type that is asked for. What it has no room for any more it makes short.
type grower struct {
	r             *rand.Rand
	room          int
	funcs         []known
	scopes        [][]known
	result        string
	vars          int
	loops, others int
	depth         int
}

func (g *grower) chance(of int) bool { return g.r.Intn(of) == 0 }

func pickOf[T any](g *grower, l []T) T { return l[g.r.Intn(len(l))] }

// tight tells whether no more is to be put below.
func (g *grower) tight() bool {
	g.room--
	return g.room < 0 || g.depth > 20
}

// deeper does something a level further down.
func deeper(g *grower, do func() api.Node) api.Node {
	g.depth++
	defer func() { g.depth-- }()
	return do()
}

// names are few, so that they hide one another.
func names() []string { return []string{"a", "b", "c", "d", "f", "g", "main", "x"} }

func (g *grower) typeText() string {
	l := []string{"int", "int", "bool", "bool", "Mutex", "WaitGroup", "chan int", "chan int", "chan bool", "<-chan int", "chan<- int", "chan chan int", "chan (<-chan int)", "chan Mutex", "<-chan <-chan bool"}
	return pickOf(g, l)
}

// seen is what a name stands for, if it is a variable's.
func (g *grower) seen(text string) (known, bool) {
	for i := len(g.scopes) - 1; i >= 0; i-- {
		for _, k := range g.scopes[i] {
			if k.text == text {
				return k, true
			}
		}
	}
	return known{}, false
}

// variablesOf is the names of variables that are seen and fit.
func (g *grower) variablesOf(fit func(of string) bool) []string {
	var l []string
	for _, text := range names() {
		if k, ok := g.seen(text); ok && fit(k.of) {
			l = append(l, text)
		}
	}
	return l
}

func (g *grower) functionsOf(of string) []known {
	var l []known
	for _, f := range g.funcs {
		if _, hidden := g.seen(f.text); f.of == of && !hidden {
			l = append(l, f)
		}
	}
	return l
}

func (g *grower) call(f known) api.Node {
	n := texted(api.NodeCall, f.text)
	for _, of := range f.params {
		n.Kids = append(n.Kids, g.given(of))
	}
	return n
}

// given is an expression that may be one of the type.
func (g *grower) given(to string) api.Node {
	if to != "int" && to != "bool" && g.chance(5) {
		return node(api.NodeNil)
	}
	if dir, elem, ok := types.Split(to); ok && dir != 0 && g.chance(2) {
		both, _ := types.Chan(0, elem)
		return g.expr(both)
	}
	return g.expr(to)
}

// expr is an expression of just that type.
func (g *grower) expr(of string) api.Node {
	return deeper(g, func() api.Node {
		if l := g.variablesOf(func(o string) bool { return o == of }); len(l) > 0 && (g.chance(2) || g.tight()) {
			return name(pickOf(g, l))
		}
		if !g.tight() {
			if l := g.functionsOf(of); len(l) > 0 && g.chance(6) {
				return g.call(pickOf(g, l))
			}
			if types.Depth(of) < 3 && g.chance(8) {
				return g.receive(of)
			}
		}
		switch of {
		case "int":
			return g.number()
		case "bool":
			return g.truth()
		}
		n := api.Node{Kind: api.NodeMake, Type: of}
		if types.Depth(of) > 0 && g.chance(3) {
			n.Kids = []api.Node{g.expr("int")}
		}
		return n
	})
}

func (g *grower) receive(of string) api.Node {
	c, _ := types.Chan(2*g.r.Intn(2), of)
	return texted(api.NodeUnary, "<-", g.expr(c))
}

func (g *grower) number() api.Node {
	if g.tight() {
		return number(int64(g.r.Intn(3)))
	}
	switch g.r.Intn(5) {
	case 0:
		return texted(api.NodeUnary, pickOf(g, []string{"+", "-"}), g.expr("int"))
	case 1:
		return texted(api.NodeBinary, pickOf(g, []string{"+", "-", "*", "/", "%"}), g.expr("int"), g.expr("int"))
	case 2:
		return texted(api.NodeCall, pickOf(g, []string{"len", "cap"}), g.expr(g.channel()))
	}
	return number(int64(g.r.Intn(3)))
}

func (g *grower) channel() string {
	for {
		if of := g.typeText(); types.Depth(of) > 0 {
			return of
		}
	}
}

func (g *grower) truth() api.Node {
	if g.tight() {
		return counted(api.NodeBool, int64(g.r.Intn(2)))
	}
	switch g.r.Intn(5) {
	case 0:
		return texted(api.NodeUnary, "!", g.expr("bool"))
	case 1:
		return texted(api.NodeBinary, pickOf(g, []string{"||", "&&"}), g.expr("bool"), g.expr("bool"))
	case 2:
		return texted(api.NodeBinary, pickOf(g, []string{"<", "<=", ">", ">="}), g.expr("int"), g.expr("int"))
	case 3:
		of := g.typeText()
		return texted(api.NodeBinary, pickOf(g, []string{"==", "!="}), g.expr(of), g.given(of))
	}
	return counted(api.NodeBool, int64(g.r.Intn(2)))
}

// fresh is a name that the scope has not yet.
func (g *grower) fresh() (string, bool) {
	top := g.scopes[len(g.scopes)-1]
	for range 4 {
		text := pickOf(g, names())
		if !slices.ContainsFunc(top, func(k known) bool { return k.text == text }) && g.vars < 200 {
			return text, true
		}
	}
	return "", false
}

func (g *grower) declare(text, of string) {
	top := len(g.scopes) - 1
	g.vars++
	g.scopes[top] = append(g.scopes[top], known{text: text, of: of})
}

// uses is statements by which what a scope declares is used; seldom one is left out.
func (g *grower) uses(scope []known) []api.Node {
	var l []api.Node
	for _, k := range scope {
		if !g.chance(150) {
			l = append(l, unsee(name(k.text)))
		}
	}
	return l
}

// scoped is what stands in a scope, with uses behind it (of a function's body: then an end).
func (g *grower) scoped(inside func() []api.Node) []api.Node {
	g.scopes = append(g.scopes, nil)
	l := inside()
	top := len(g.scopes) - 1
	l = append(l, g.uses(g.scopes[top])...)
	g.scopes = g.scopes[:top]
	return l
}

func (g *grower) block() api.Node {
	return deeper(g, func() api.Node { return block(g.scoped(g.statements)...) })
}

func (g *grower) statements() []api.Node {
	var l []api.Node
	for range g.r.Intn(4) {
		if g.tight() {
			break
		}
		l = append(l, deeper(g, g.statement))
	}
	return l
}

func (g *grower) statement() api.Node {
	switch g.r.Intn(14) {
	case 0, 1:
		return g.variable()
	case 2, 3:
		return g.simple(true)
	case 4:
		return g.simple(false)
	case 5:
		return g.block()
	case 6:
		return g.choice()
	case 7, 8:
		return g.loop()
	case 9:
		return g.switching()
	case 10:
		return g.selecting()
	case 11:
		if len(g.funcs) > 0 {
			f := pickOf(g, g.funcs)
			if _, hidden := g.seen(f.text); !hidden {
				return node(api.NodeGo, g.call(f))
			}
		}
	case 12:
		if g.chance(4) {
			return g.leaving()
		}
	}
	return g.doing()
}

func (g *grower) leaving() api.Node {
	if g.loops > 0 && g.chance(2) {
		return node(api.NodeContinue)
	}
	if g.loops+g.others > 0 && g.chance(2) {
		return node(api.NodeBreak)
	}
	if g.result == "" {
		return node(api.NodeReturn)
	}
	return node(api.NodeReturn, g.given(g.result))
}

func (g *grower) variable() api.Node {
	text, ok := g.fresh()
	if !ok {
		return g.doing()
	}
	n := api.Node{Kind: api.NodeVar, Text: text, Type: g.typeText()}
	if g.chance(2) {
		n.Kids = []api.Node{g.given(n.Type)}
	}
	g.declare(text, n.Type)
	return n
}

// simple is one that may stand in a For's head; a Define only if it may declare.
func (g *grower) simple(declares bool) api.Node {
	if declares && g.chance(2) {
		return g.define(g.chance(3))
	}
	switch g.r.Intn(4) {
	case 0:
		return g.assign(g.chance(3))
	case 1:
		if l := g.variablesOf(func(of string) bool { return of == "int" }); len(l) > 0 {
			return counted(api.NodeStep, int64(2*g.r.Intn(2)-1), name(pickOf(g, l)))
		}
	case 2:
		return g.send()
	}
	return g.doing()
}

// define is one of a receive, if that is asked for.
func (g *grower) define(receives bool) api.Node {
	of := g.typeText()
	if types.Depth(of) > 2 {
		of = "int"
	}
	first, ok := g.fresh()
	if !ok {
		return g.doing()
	}
	if !receives || g.chance(2) {
		e := g.receive(of)
		if !receives {
			e = g.expr(of)
		}
		g.declare(first, of)
		return counted(api.NodeDefine, 1, name(first), e)
	}
	e := g.receive(of)
	if g.chance(3) {
		g.declare(first, "bool")
		return counted(api.NodeDefine, 2, name("_"), name(first), e)
	}
	g.declare(first, of)
	second, ok := g.fresh()
	if !ok || g.chance(3) {
		return counted(api.NodeDefine, 2, name(first), name("_"), e)
	}
	g.declare(second, "bool")
	return counted(api.NodeDefine, 2, name(first), name(second), e)
}

// target is a name of what fits, or a blank.
func (g *grower) target(of string) api.Node {
	l := g.variablesOf(func(to string) bool { return types.Assignable(of, to) })
	if len(l) == 0 || g.chance(3) {
		return name("_")
	}
	return name(pickOf(g, l))
}

func (g *grower) assign(receives bool) api.Node {
	of := g.typeText()
	switch {
	case receives && g.chance(2):
		return counted(api.NodeAssign, 2, g.target(of), g.target("bool"), g.receive(of))
	case receives:
		return counted(api.NodeAssign, 1, g.target(of), g.receive(of))
	}
	return counted(api.NodeAssign, 1, g.target(of), g.expr(of))
}

func (g *grower) send() api.Node {
	of := g.typeText()
	c, _ := types.Chan(g.r.Intn(2), of)
	return node(api.NodeSend, g.expr(c), g.given(of))
}

func (g *grower) doing() api.Node {
	var e api.Node
	switch g.r.Intn(6) {
	case 0:
		e = texted(api.NodeCall, "println")
		for range g.r.Intn(4) {
			e.Kids = append(e.Kids, pickOf(g, []func() api.Node{func() api.Node { return g.expr("int") }, func() api.Node { return g.expr("bool") }, func() api.Node { return texted(api.NodeText, "a") }})())
		}
	case 1:
		e = texted(api.NodeMethod, pickOf(g, []string{"Lock", "Unlock"}), g.expr("Mutex"))
	case 2:
		e = texted(api.NodeMethod, pickOf(g, []string{"Done", "Wait"}), g.expr("WaitGroup"))
	case 3:
		e = texted(api.NodeMethod, "Add", g.expr("WaitGroup"), g.expr("int"))
	case 4:
		c, _ := types.Chan(g.r.Intn(2), g.typeText())
		e = texted(api.NodeCall, "close", g.expr(c))
	case 5:
		e = pickOf(g, []func() api.Node{func() api.Node { return g.receive("int") }, func() api.Node { return texted(api.NodeCall, "yield") }})()
	}
	return node(api.NodeDo, e)
}

func (g *grower) choice() api.Node {
	n := node(api.NodeIf, g.expr("bool"), g.block())
	switch g.r.Intn(4) {
	case 0:
		n.Kids = append(n.Kids, g.block())
	case 1:
		if !g.tight() {
			n.Kids = append(n.Kids, deeper(g, g.choice))
		}
	}
	return n
}

// loop grows the Block in the For's own scope, with what that declares used at its beginning.
func (g *grower) loop() api.Node {
	g.scopes = append(g.scopes, nil)
	defer func() { g.scopes = g.scopes[:len(g.scopes)-1] }()
	n := counted(api.NodeFor, int64(g.r.Intn(4)))
	switch n.N {
	case 1:
		n.Kids = []api.Node{g.expr("bool")}
	case 2:
		n.Kids = make([]api.Node, 3)
		if g.chance(2) {
			n.Kids[0] = g.simple(true)
		}
		if g.chance(2) {
			n.Kids[1] = g.expr("bool")
		}
		if g.chance(2) {
			n.Kids[2] = g.simple(false)
		}
	case 3:
		n.Text, n.Kids = g.ranging()
	}
	uses := g.uses(g.scopes[len(g.scopes)-1])
	g.loops++
	body := g.block()
	g.loops--
	body.Kids = append(uses, body.Kids...)
	n.Kids = append(n.Kids, body)
	return n
}

func (g *grower) ranging() (string, []api.Node) {
	of := g.typeText()
	c, _ := types.Chan(2*g.r.Intn(2), of)
	e := g.expr(c)
	target := g.target(of)
	if target.Text != "_" && g.chance(2) {
		return "=", []api.Node{target, e}
	}
	if text, ok := g.fresh(); ok && g.chance(2) {
		g.declare(text, of)
		return ":=", []api.Node{name(text), e}
	}
	return "", []api.Node{{}, e}
}

func (g *grower) switching() api.Node {
	n := counted(api.NodeSwitch, int64(g.r.Intn(2)))
	of := "bool"
	if n.N == 1 {
		of = g.typeText()
		n.Kids = []api.Node{g.expr(of)}
	}
	n.Kids = append(n.Kids, g.clauses(api.NodeCase, func() []api.Node {
		var l []api.Node
		for range 1 + g.r.Intn(2) {
			l = append(l, g.given(of))
		}
		return l
	})...)
	return n
}

func (g *grower) selecting() api.Node {
	return node(api.NodeSelect, g.clauses(api.NodeArm, func() []api.Node { return []api.Node{deeper(g, g.comm)} })...)
}

func (g *grower) comm() api.Node {
	switch g.r.Intn(4) {
	case 0:
		return g.send()
	case 1:
		if n := g.define(true); n.Kind == api.NodeDefine {
			return n
		}
	case 2:
		return g.assign(true)
	}
	return node(api.NodeDo, g.receive("int"))
}

// clauses grows Cases or Arms, perhaps a default among them.
func (g *grower) clauses(kind api.NodeKind, head func() []api.Node) []api.Node {
	var l []api.Node
	others := g.r.Intn(4)
	g.others++
	for i := range 3 {
		if g.tight() {
			break
		}
		n := node(kind)
		if i == others {
			n.N = 1
		}
		body := g.scoped(func() []api.Node {
			if i != others {
				n.Kids = head()
			}
			return g.statements()
		})
		n.Kids = append(n.Kids, block(body...))
		l = append(l, n)
	}
	g.others--
	return l
}

// ending is a statement that ends, if no Break is in it.
func (g *grower) ending() api.Node {
	if g.depth > 20 || g.chance(2) {
		return node(api.NodeReturn, g.given(g.result))
	}
	body := func() api.Node {
		return deeper(g, func() api.Node {
			return block(append(g.scoped(g.statements), g.ending())...)
		})
	}
	inside := func(count *int) api.Node {
		*count++
		defer func() { *count-- }()
		return body()
	}
	switch g.r.Intn(6) {
	case 0:
		return body()
	case 1:
		return node(api.NodeIf, g.expr("bool"), body(), body())
	case 2:
		return counted(api.NodeFor, 0, inside(&g.loops))
	case 3:
		return counted(api.NodeFor, 2, api.Node{}, api.Node{}, api.Node{}, inside(&g.loops))
	case 4:
		return node(api.NodeSwitch, node(api.NodeCase, g.expr("bool"), inside(&g.others)), counted(api.NodeCase, 1, inside(&g.others)))
	}
	return node(api.NodeSelect, node(api.NodeArm, node(api.NodeDo, g.receive("int")), inside(&g.others)), counted(api.NodeArm, 1, inside(&g.others)))
}

func (g *grower) function(f known) api.Node {
	n := function(f.text, f.of)
	g.result, g.vars, g.scopes = f.of, 0, nil
	var ps []known
	for i, of := range f.params {
		x := pickOf(g, names()) + strconv.Itoa(i)
		if g.chance(2) && i == 0 {
			x = pickOf(g, names())
		}
		ps = append(ps, known{text: x, of: of})
		n.Kids = append(n.Kids, api.Node{Kind: api.NodeParam, Text: x, Type: of})
	}
	body := g.scoped(func() []api.Node {
		for _, p := range ps {
			g.declare(p.text, p.of)
		}
		return g.statements()
	})
	if f.of != "" {
		body = append(body, g.ending())
	}
	n.Kids = append(n.Kids, block(body...))
	return n
}

// file grows a file whose main stands somewhere.
func (g *grower) file() api.Node {
	for _, text := range []string{"f", "g", "h"}[:g.r.Intn(4)] {
		f := known{text: text}
		if g.chance(2) {
			f.of = g.typeText()
		}
		for range g.r.Intn(3) {
			f.params = append(f.params, g.typeText())
		}
		g.funcs = append(g.funcs, f)
	}
	g.funcs = slices.Insert(g.funcs, g.r.Intn(len(g.funcs)+1), known{text: "main"})
	n := node(api.NodeFile)
	for _, f := range g.funcs {
		g.room = 10 + g.r.Intn(60)
		n.Kids = append(n.Kids, g.function(f))
	}
	return n
}
