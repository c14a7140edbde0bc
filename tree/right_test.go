package tree_test

import (
	"regexp"
	"slices"
	"strings"
	"testing"

	"drowse/api"
	"drowse/tree"
	"drowse/types"
	"drowse/words"
)

// letter is what a node is to the one above it: each kind has a letter, some have several.
func letter(n api.Node) string {
	receives := func(n api.Node) bool {
		l := n.Kids
		return len(l) > 0 && l[len(l)-1].Kind == api.NodeUnary && l[len(l)-1].Text == "<-"
	}
	pick := func(yes bool, one, other string) string {
		if yes {
			return one
		}
		return other
	}
	switch n.Kind {
	case api.NodeName:
		return pick(n.Text == "_", "_", "a")
	case api.NodeUnary:
		return pick(n.Text == "<-", "r", "x")
	case api.NodeCall:
		return pick(words.Name(n.Text) && n.Text != "_", "c", "w")
	case api.NodeDefine:
		return pick(receives(n), "D", "d")
	case api.NodeAssign:
		return pick(receives(n), "A", "s")
	case api.NodeDo:
		return pick(receives(n), "O", "o")
	case api.NodeCase:
		return pick(n.N == 1, "K", "C")
	case api.NodeArm:
		return pick(n.N == 1, "N", "M")
	}
	l, ok := map[api.NodeKind]string{
		api.NodeNone: "0", api.NodeFile: "F", api.NodeFunc: "f", api.NodeParam: "P", api.NodeBlock: "B", api.NodeVar: "V", api.NodeStep: "S", api.NodeSend: ">",
		api.NodeIf: "I", api.NodeFor: "L", api.NodeSwitch: "W", api.NodeSelect: "E", api.NodeGo: "G", api.NodeReturn: "R", api.NodeBreak: "b", api.NodeContinue: "k",
		api.NodeInt: "x", api.NodeBool: "x", api.NodeNil: "x", api.NodeText: "t", api.NodeBinary: "x", api.NodeMake: "x", api.NodeMethod: "m",
	}[n.Kind]
	return pick(ok, l, "?")
}

// row is a row of the chapter's tables: patterns of a node's Text, N and Type, and of its kids' letters. E and S of the patterns are all expressions' and all statements' letters.
type row struct{ text, n, typed, kids string }

const (
	anyText  = `(?s).*`
	newName  = `NAME`
	anyType  = `TYPE`
	someType = `TYPE|`
)

func rows() map[api.NodeKind][]row {
	const first, next = `[0DdAsS>oO]`, `[0AsS>oO]`
	return map[api.NodeKind][]row{
		api.NodeNone:     {{"", "0", "", ""}},
		api.NodeFile:     {{"", "0", "", "f*"}},
		api.NodeFunc:     {{newName, "0", someType, "P*B"}},
		api.NodeParam:    {{newName, "0", anyType, ""}},
		api.NodeBlock:    {{"", "0", "", "S*"}},
		api.NodeVar:      {{newName, "0", anyType, "E?"}},
		api.NodeDefine:   {{"", "1", "", "aE"}, {"", "2", "", "(aa|a_|_a)r"}},
		api.NodeAssign:   {{"", "1", "", "[a_]E"}, {"", "2", "", "[a_][a_]r"}},
		api.NodeStep:     {{"", "1|-1", "", "a"}},
		api.NodeSend:     {{"", "0", "", "EE"}},
		api.NodeDo:       {{"", "0", "", "[cwmr]"}},
		api.NodeIf:       {{"", "0", "", "EB[BI]?"}},
		api.NodeFor:      {{"", "0", "", "B"}, {"", "1", "", "EB"}, {"", "2", "", first + "(0|E)" + next + "B"}, {"", "3", "", "0EB"}, {":=|=", "3", "", "aEB"}},
		api.NodeSwitch:   {{"", "0", "", "C*K?C*"}, {"", "1", "", "EC*K?C*"}},
		api.NodeCase:     {{"", "0", "", "EE*B"}, {"", "1", "", "B"}},
		api.NodeSelect:   {{"", "0", "", "M*N?M*"}},
		api.NodeArm:      {{"", "0", "", "[>ODA]B"}, {"", "1", "", "B"}},
		api.NodeGo:       {{"", "0", "", "c"}},
		api.NodeReturn:   {{"", "0", "", "E?"}},
		api.NodeBreak:    {{"", "0", "", ""}},
		api.NodeContinue: {{"", "0", "", ""}},
		api.NodeName:     {{newName + "|_", "0", anyText, ""}},
		api.NodeInt:      {{"", `\d+`, anyText, ""}},
		api.NodeBool:     {{"", "0|1", anyText, ""}},
		api.NodeNil:      {{"", "0", anyText, ""}},
		api.NodeText:     {{anyText, "0", "", ""}},
		api.NodeUnary:    {{`\+|-|!|<-`, "0", anyText, "E"}},
		api.NodeBinary:   {{`\|\||&&|==|!=|<|<=|>|>=|\+|-|\*|/|%`, "0", anyText, "EE"}},
		api.NodeCall:     {{newName + "|len|cap|close|yield", "0", anyText, "E*"}, {"println", "0", anyText, "(E|t)*"}},
		api.NodeMake:     {{"", "0", anyType, "E?"}},
		api.NodeMethod:   {{"Lock|Unlock|Add|Done|Wait", "0", anyText, "EE*"}},
	}
}

// model says of a tree that is not too deep whether it is right.
type model map[api.NodeKind][][4]*regexp.Regexp

func newModel() model {
	m := model{}
	for kind, l := range rows() {
		for _, r := range l {
			var made [4]*regexp.Regexp
			for i, pattern := range []string{r.text, r.n, r.typed, r.kids} {
				if i == 3 {
					pattern = strings.NewReplacer("S*", "[BVDdAsS>oOILWEGRbk]*", "E", "[arcwmx]").Replace(pattern)
				}
				made[i] = regexp.MustCompile(`^(?:` + pattern + `)$`)
			}
			m[kind] = append(m[kind], made)
		}
	}
	return m
}

func (m model) fits(n api.Node) bool {
	asText, asType, kids := n.Text, n.Type, ""
	// The patterns know names and types by a word that is none of a test's texts.
	if words.Name(n.Text) && n.Text != "_" && n.Kind != api.NodeText && n.Kind != api.NodeMethod {
		asText = newName
	}
	if types.Right(n.Type) {
		asType = anyType
	}
	for _, kid := range n.Kids {
		kids += letter(kid)
	}
	for _, r := range m[n.Kind] {
		if r[0].MatchString(asText) && r[1].MatchString(words.Int(n.N)) && r[2].MatchString(asType) && r[3].MatchString(kids) {
			return true
		}
	}
	return false
}

func (m model) allFit(n api.Node) bool {
	for _, kid := range n.Kids {
		if !m.allFit(kid) {
			return false
		}
	}
	return m.fits(n)
}

func (m model) right(n api.Node) api.Errno {
	switch {
	case plainDepth(n) > 40:
		return api.ErrTreeNest
	case n.Kind != api.NodeFile || !m.allFit(n):
		return api.ErrTreeForm
	}
	return api.OK
}

// pieces are nodes that are put where others stand: each kind, in right forms and in empty ones.
func pieces() []api.Node {
	a, c, empty, blank := name("a"), name("c"), block(), name("_")
	l := []api.Node{
		none(), file(), function("f", "", empty), param("p", "int"), empty, block(leave()), variable("x", "int"), variable("x", "int", a),
		define(a, a), define(a, receive(c)), define(a, blank, receive(c)), assign(a, a), assign(blank, receive(c)), assign(blank, blank, receive(c)),
		step(1, "a"), send(c, a), do(call("f")), do(receive(c)), do(method("Wait", a)), choice(a, empty), loop(0, empty), cases(), casesOf(a), one(a, empty), other(empty), arms(), arm(do(receive(c)), empty), otherArm(empty),
		start(call("f")), result(), result(a), leave(), again(),
		a, blank, number(1), yes(), null(), text("a"), unary("-", a), receive(c), binary(a, "+", a), call("f"), call("len", a), call("println", text("a")), making("int"), method("Wait", a),
	}
	for _, k := range everyKind() {
		l = append(l, node(k))
	}
	return l
}

func textsToTry() []string {
	return []string{"", "x", "_", "main", "1", "for", "Mutex", "nil", "len", "println", "make", "yield", "close", "Lock", "lock", "Wait", ":=", "=", "==", "+", "++", "-", "!", "<-", "<", "||", "|", "&&", "*", "%", "(", " ", "a b", "é", "\x00", strings.Repeat("n", 30), strings.Repeat("n", 31)}
}

func typesToTry() []string {
	return []string{"", "int", "WaitGroup", "chan (<-chan int)", "nil", "chan", "chan (int)", " int", "x"}
}

func numbersToTry() []int64 {
	return []int64{0, 1, 2, 3, 4, 5, -1, -2, 256, 1 << 32, 1<<32 + 1, 1<<63 - 1, -1 << 63}
}

// changedOnce calls see with n as it is with one field of it changed, its kids' fields not among them.
func changedOnce(n api.Node, with []api.Node, see func(api.Node)) {
	for _, k := range everyKind() {
		c := n
		c.Kind = k
		see(c)
	}
	for _, s := range textsToTry() {
		c := n
		c.Text = s
		see(c)
	}
	for _, s := range typesToTry() {
		c := n
		c.Type = s
		see(c)
	}
	for _, i := range numbersToTry() {
		c := n
		c.N = i
		see(c)
	}
	changedKids(n, with, see)
}

func changedKids(n api.Node, with []api.Node, see func(api.Node)) {
	set := func(lists ...[]api.Node) {
		c := n
		c.Kids = nil
		for _, l := range lists {
			c.Kids = append(c.Kids, l...)
		}
		see(c)
	}
	l := n.Kids
	for i := range len(l) + 1 {
		for _, piece := range with {
			set(l[:i], []api.Node{piece}, l[i:])
			if i < len(l) {
				set(l[:i], []api.Node{piece}, l[i+1:])
			}
		}
		if i < len(l) {
			set(l[:i], l[i+1:])
			set(l[:i+1], l[i:])
			set(l[i:], l[:i])
		}
		set(l[:i])
	}
}

// changes calls see with n as it is with one field of one of its nodes changed.
func changes(n api.Node, with []api.Node, see func(api.Node)) {
	changedOnce(n, with, see)
	for i := range n.Kids {
		changes(n.Kids[i], with, func(kid api.Node) {
			c := n
			c.Kids = append([]api.Node(nil), n.Kids...)
			c.Kids[i] = kid
			see(c)
		})
	}
}

func TestRightOfOneChange(t *testing.T) {
	m, with := newModel(), pieces()
	asked, right := 0, 0
	for _, f := range files() {
		changes(f.n, with, func(n api.Node) {
			m.want(t, n)
			asked++
			if tree.Right(n) == api.OK {
				right++
			}
		})
	}
	if right < 1000 || asked-right < 1000 {
		t.Errorf("of %d trees %d are right", asked, right)
	}
}

// fewKids are nodes that tell apart what a row may ask of a kid.
func fewKids() []api.Node {
	a, empty := name("a"), block()
	return []api.Node{none(), a, name("_"), receive(a), call("f"), call("len"), text("s"), empty, define(a, a), step(1, "a"), do(receive(a)), choice(a, empty), one(a, empty), other(empty), arm(send(a, a), empty), otherArm(empty), param("p", "int")}
}

// listsOf are all lists of at most that many of these nodes.
func listsOf(few []api.Node, most int) [][]api.Node {
	all := [][]api.Node{nil}
	last := all
	for range most {
		var next [][]api.Node
		for _, l := range last {
			for _, n := range few {
				next = append(next, append(slices.Clone(l), n))
			}
		}
		all = append(all, next...)
		last = next
	}
	return all
}

// heads are the samples, one of each Kind, N and Text.
func heads() []api.Node {
	var l []api.Node
	for _, s := range append(statements(), expressions()...) {
		if !slices.ContainsFunc(l, func(n api.Node) bool { return n.Kind == s.n.Kind && n.N == s.n.N && n.Text == s.n.Text }) {
			l = append(l, s.n)
		}
	}
	return l
}

// inAFile is a file in which a statement or an expression stands.
func inAFile(n api.Node) api.Node {
	if strings.Contains("arcwmx", letter(n)) {
		return inMain(result(n))
	}
	return inMain(n)
}

func (m model) want(t *testing.T, n api.Node) {
	t.Helper()
	if got, want := tree.Right(n), m.right(n); got != want {
		t.Fatalf("Right: %d, not %d: %+v", got, want, n)
	}
}

// TestRightOfAllKids: each head with each list of few kids, and a Switch's and a Select's defaults at all places.
func TestRightOfAllKids(t *testing.T) {
	m, lists := newModel(), listsOf(fewKids(), 3)
	for _, n := range heads() {
		for _, l := range lists {
			n.Kids = l
			m.want(t, inAFile(n))
		}
	}
	for _, first := range fewKids() {
		for _, l := range lists {
			n := loop(2, first)
			n.Kids = append(n.Kids, l...)
			m.want(t, inAFile(n))
		}
	}
	a, empty := name("a"), block()
	for _, l := range listsOf([]api.Node{one(a, empty), other(empty), arm(send(a, a), empty), otherArm(empty)}, 5) {
		m.want(t, inMain(cases(l...)))
		m.want(t, inMain(casesOf(append([]api.Node{a}, l...)...)))
		m.want(t, inMain(arms(l...)))
	}
}

func TestRightOnlyOfAFile(t *testing.T) {
	wantText(t, file(), "")
	for _, n := range pieces() {
		if n.Kind != api.NodeFile {
			wantWrong(t, "no file", n, api.ErrTreeForm)
		}
		if n.Kind != api.NodeFunc {
			wantWrong(t, "a file of no function", file(n), api.ErrTreeForm)
		}
	}
	wantWrong(t, "a file in a file", file(inMain()), api.ErrTreeForm)
	wantWrong(t, "a file with a name", texted(api.NodeFile, "f"), api.ErrTreeForm)
	wantWrong(t, "a file with a number", counted(api.NodeFile, 1), api.ErrTreeForm)
	wantWrong(t, "a file with a type", api.Node{Kind: api.NodeFile, Type: "int"}, api.ErrTreeForm)
}

func TestRightFunctions(t *testing.T) {
	empty := block()
	for what, f := range map[string]api.Node{
		"without a name":          function("", "", empty),
		"named _":                 function("_", "", empty),
		"named by a word":         function("for", "", empty),
		"a type that is none":     function("f", "chan", empty),
		"a type nil":              function("f", "nil", empty),
		"without a block":         function("f", ""),
		"two blocks":              function("f", "", empty, empty),
		"params behind the block": function("f", "", empty, param("p", "int")),
		"params alone":            function("f", "", param("p", "int")),
		"a param without a type":  function("f", "", param("p", ""), empty),
		"a param without a name":  function("f", "", param("", "int"), empty),
		"a param _":               function("f", "", param("_", "int"), empty),
		"a name as a param":       function("f", "", name("p"), empty),
		"a number":                {Kind: api.NodeFunc, Text: "f", N: 1, Kids: []api.Node{empty}},
		"a param with kids":       function("f", "", api.Node{Kind: api.NodeParam, Text: "p", Type: "int", Kids: []api.Node{empty}}, empty),
		"a type in the block":     function("f", "", api.Node{Kind: api.NodeBlock, Type: "int"}),
	} {
		wantWrong(t, what, file(f), api.ErrTreeForm)
		wantWrong(t, what+", behind a right one", file(function("f", "", empty), f), api.ErrTreeForm)
	}
}

func TestRightStatements(t *testing.T) {
	a, c, blank, empty := name("a"), name("c"), name("_"), block()
	for what, n := range map[string]api.Node{
		"an expression":                      a,
		"a call without a Do":                call("f"),
		"a Do of a name":                     do(a),
		"a Do of a sum":                      do(binary(a, "+", a)),
		"a Do of a make":                     do(making("Mutex")),
		"a Do of a Unary -":                  do(unary("-", a)),
		"a Do of nothing":                    node(api.NodeDo),
		"a var of no type":                   variable("x", ""),
		"a var _":                            variable("_", "int"),
		"a var of two":                       variable("x", "int", a, a),
		"a define of _":                      define(blank, a),
		"a define of two _":                  define(blank, blank, receive(c)),
		"a define of two and a name":         define(a, a, a),
		"a define of three":                  counted(api.NodeDefine, 3, a, a, a, receive(c)),
		"a define of N 1 with two targets":   counted(api.NodeDefine, 1, a, a, receive(c)),
		"a define of N 2 with one target":    counted(api.NodeDefine, 2, a, receive(c)),
		"a define without kids":              counted(api.NodeDefine, 1),
		"an assign to a number":              assign(number(1), a),
		"an assign to a call":                assign(call("f"), a),
		"an assign of _":                     assign(a, blank),
		"an assign of N 0":                   counted(api.NodeAssign, 0, a, a),
		"a step of 0":                        step(0, "a"),
		"a step of 2":                        step(2, "a"),
		"a step of _":                        step(1, "_"),
		"a step of a number":                 counted(api.NodeStep, 1, number(1)),
		"a send of one":                      node(api.NodeSend, a),
		"a send of three":                    node(api.NodeSend, a, a, a),
		"a send on _":                        send(blank, a),
		"an if without a block":              choice(a),
		"an if of a block":                   choice(empty),
		"an if with a statement as its else": choice(a, empty, leave()),
		"an if with four":                    choice(a, empty, empty, empty),
		"a for of N 4":                       loop(4, empty),
		"a for of N -1":                      loop(-1, empty),
		"a for of N 0 with a condition":      loop(0, a, empty),
		"a for of N 1 without":               loop(1, empty),
		"a for of N 1 with a None":           loop(1, none(), empty),
		"a for that defines at its end":      loop(2, none(), none(), define(a, a), empty),
		"a for that starts with a var":       loop(2, variable("x", "int"), none(), none(), empty),
		"a for whose condition is a Do":      loop(2, none(), do(call("f")), none(), empty),
		"a for of three parts":               loop(2, none(), none(), empty),
		"a range over nothing":               over("", none(), none(), empty),
		"a range of no sign with a name":     over("", a, c, empty),
		"a range with := without a name":     over(":=", none(), c, empty),
		"a range with := and _":              over(":=", blank, c, empty),
		"a range with = and _":               over("=", blank, c, empty),
		"a range with ==":                    over("==", a, c, empty),
		"a sign where none ranges":           {Kind: api.NodeFor, N: 2, Text: ":=", Kids: []api.Node{none(), none(), none(), empty}},
		"a switch of N 1 without":            casesOf(),
		"a switch of N 1 with a case alone":  casesOf(one(a, empty)),
		"a switch of N 0 with an expression": cases(a),
		"a switch of N 2":                    counted(api.NodeSwitch, 2, a, a),
		"a switch of arms":                   cases(otherArm(empty)),
		"a switch with two defaults":         cases(other(empty), one(a, empty), other(empty)),
		"a switch of blocks":                 cases(empty),
		"a case of nothing":                  cases(one(empty)),
		"a case without a block":             cases(one(a)),
		"a case of _":                        cases(one(blank, empty)),
		"a default with an expression":       cases(other(a, empty)),
		"a default of nothing":               cases(other()),
		"a case of N 2":                      cases(counted(api.NodeCase, 2, empty)),
		"a case of N -1":                     cases(counted(api.NodeCase, -1, empty)),
		"a select of N 1":                    counted(api.NodeSelect, 1),
		"a select of cases":                  arms(one(a, empty)),
		"a select with two defaults":         arms(otherArm(empty), otherArm(empty)),
		"an arm of a call":                   arms(arm(do(call("f")), empty)),
		"an arm of a step":                   arms(arm(step(1, "a"), empty)),
		"an arm of a receive without a Do":   arms(arm(receive(c), empty)),
		"an arm of an assign of a name":      arms(arm(assign(a, c), empty)),
		"an arm of a define of a name":       arms(arm(define(a, c), empty)),
		"an arm of a define of _":            arms(arm(define(blank, receive(c)), empty)),
		"an arm without a block":             arms(arm(do(receive(c)))),
		"an arm of a block alone":            arms(arm(empty)),
		"a default arm of a send":            arms(otherArm(send(c, a), empty)),
		"an arm of a None":                   arms(arm(none(), empty)),
		"a case outside":                     one(a, empty),
		"an arm outside":                     otherArm(empty),
		"a param outside":                    param("p", "int"),
		"a function inside":                  function("f", "", empty),
		"a None outside":                     none(),
		"a go of a method":                   start(method("Wait", a)),
		"a go of println":                    start(call("println")),
		"a go of a receive":                  start(receive(c)),
		"a go of nothing":                    node(api.NodeGo),
		"a return of two":                    result(a, a),
		"a return of _":                      result(blank),
		"a return of a None":                 result(none()),
		"a break of something":               node(api.NodeBreak, a),
		"a continue with a name":             texted(api.NodeContinue, "a"),
		"a break with a number":              counted(api.NodeBreak, 1),
		"a break with a type":                {Kind: api.NodeBreak, Type: "int"},
		"a type where none is checked":       {Kind: api.NodeDo, Type: "int", Kids: []api.Node{call("f")}},
	} {
		wantWrong(t, what, inMain(n), api.ErrTreeForm)
		wantWrong(t, what+", deeper", inMain(leave(), loop(0, block(casesOf(a, one(a, block(leave(), n)))))), api.ErrTreeForm)
	}
}

func TestRightExpressions(t *testing.T) {
	a, blank := name("a"), name("_")
	for what, n := range map[string]api.Node{
		"_":                                   blank,
		"a name that is none":                 name("1a"),
		"no name":                             name(""),
		"a word as a name":                    name("select"),
		"a name of 31 bytes":                  name(strings.Repeat("n", 31)),
		"a name with a number":                {Kind: api.NodeName, Text: "a", N: 1},
		"a name with a kid":                   texted(api.NodeName, "a", a),
		"a number below 0":                    number(-1),
		"the least number":                    number(-1 << 63),
		"a number with a text":                {Kind: api.NodeInt, Text: "1", N: 1},
		"a bool of 2":                         counted(api.NodeBool, 2),
		"a bool of -1":                        counted(api.NodeBool, -1),
		"a bool with a text":                  texted(api.NodeBool, "true"),
		"a nil with a kid":                    node(api.NodeNil, a),
		"a nil with a text":                   texted(api.NodeNil, "nil"),
		"a text":                              text("a"),
		"a text in a sum":                     binary(a, "+", text("a")),
		"a text of a call":                    call("f", text("a")),
		"a text of len":                       call("len", text("a")),
		"a text in a sum of a println":        call("println", binary(a, "+", text("a"))),
		"a text in brackets of a println":     call("println", call("f", text("a"))),
		"a text with a number":                call("println", api.Node{Kind: api.NodeText, Text: "a", N: 1}),
		"a text with a type":                  call("println", api.Node{Kind: api.NodeText, Text: "a", Type: "int"}),
		"a text with a kid":                   call("println", texted(api.NodeText, "a", a)),
		"a println of _":                      call("println", blank),
		"a unary *":                           unary("*", a),
		"a unary without a sign":              unary("", a),
		"a unary of nothing":                  texted(api.NodeUnary, "-"),
		"a unary of two":                      texted(api.NodeUnary, "-", a, a),
		"a unary of _":                        unary("!", blank),
		"a receive from _":                    receive(blank),
		"a receive with a number":             {Kind: api.NodeUnary, Text: "<-", N: 1, Kids: []api.Node{a}},
		"a binary !":                          binary(a, "!", a),
		"a binary <-":                         binary(a, "<-", a),
		"a binary of one":                     texted(api.NodeBinary, "+", a),
		"a binary of three":                   texted(api.NodeBinary, "+", a, a, a),
		"a binary of _":                       binary(a, "+", blank),
		"a binary of a block":                 binary(block(), "+", a),
		"a call of _":                         call("_"),
		"a call of make":                      call("make", a),
		"a call of nil":                       call("nil"),
		"a call of nothing":                   call(""),
		"a call of a statement":               call("f", leave()),
		"a call of a None":                    call("f", none()),
		"a make of no type":                   making(""),
		"a make of nil":                       making("nil"),
		"a make of two":                       making("chan int", a, a),
		"a make with a text":                  {Kind: api.NodeMake, Text: "make", Type: "int"},
		"a make of _":                         making("chan int", blank),
		"a method of nothing":                 method("Lock"),
		"a method that is none":               method("lock", a),
		"a method RLock":                      method("RLock", a),
		"a method of _":                       method("Lock", blank),
		"a method with _":                     method("Lock", a, blank),
		"a kind below all":                    node(-1),
		"a kind above all":                    node(api.NodeMethod + 1),
		"a kind far above":                    node(1 << 40),
		"a type's channels above MaxNest, 41": making(strings.Repeat("chan ", 41) + "int"),
	} {
		wantWrong(t, what, inMain(result(n)), api.ErrTreeForm)
		wantWrong(t, what+", deeper", inMain(variable("x", "int", binary(a, "*", call("f", a, method("Add", a, n))))), api.ErrTreeForm)
	}
	wantText(t, inMain(result(making(strings.Repeat("chan ", 40)+"int"))), "func main() {\n\treturn make("+strings.Repeat("chan ", 40)+"int)\n}\n")
}

// towers are ways to put one thing around another; how many nodes each puts around it.
func towers() []struct {
	adds int
	put  func(api.Node) api.Node
} {
	a := name("a")
	type tower = struct {
		adds int
		put  func(api.Node) api.Node
	}
	return []tower{
		{1, func(n api.Node) api.Node { return block(n) }},
		{2, func(n api.Node) api.Node { return choice(a, block(n)) }},
		{2, func(n api.Node) api.Node { return choice(a, block(), block(n)) }},
		{2, func(n api.Node) api.Node { return loop(0, block(leave(), n, leave())) }},
		{3, func(n api.Node) api.Node { return cases(other(block()), one(a, block(n)), one(a, block())) }},
		{3, func(n api.Node) api.Node { return arms(otherArm(block(leave(), n)), arm(send(a, a), block())) }},
	}
}

func TestRightAtFortyAndFortyOne(t *testing.T) {
	for i, tower := range towers() {
		for blocks := range 3 {
			// The file, its function and that one's block are three; the innermost statement is one more.
			times := (36 - blocks) / tower.adds
			depth := 4 + blocks + times*tower.adds
			n := leave()
			for range blocks {
				n = block(n)
			}
			for range times {
				n = tower.put(n)
			}
			for ; depth < 40; depth++ {
				n = block(n)
			}
			if e := tree.Right(inMain(n)); e != api.OK {
				t.Errorf("tower %d: %d", i, e)
			}
			wantWrong(t, "a tower", inMain(block(n)), api.ErrTreeNest)
			wantWrong(t, "a tower behind others", inMain(leave(), block(leave()), block(n), leave()), api.ErrTreeNest)
			wantWrong(t, "a tower in the last function", file(function("f", "", block()), function("f", "", block(block(n)))), api.ErrTreeNest)
		}
	}
	chain := choice(name("a"), block())
	for range 34 {
		chain = choice(name("a"), block(), chain)
	}
	// From the file to the innermost If's Block.
	if d := tree.Depth(inMain(chain), 100); d != 39 {
		t.Errorf("a row of elses: %d", d)
	}
	chain = choice(name("a"), block(), chain)
	if e := tree.Right(inMain(chain)); e != api.OK {
		t.Errorf("a row of elses: %d", e)
	}
	wantWrong(t, "a row of elses", inMain(choice(name("a"), block(), chain)), api.ErrTreeNest)
}

func TestRightOfDeepExpressions(t *testing.T) {
	a := name("a")
	wantText(t, inMain(result(around(a, 35))), "func main() {\n\treturn "+strings.Repeat("!", 35)+"a\n}\n")
	wantWrong(t, "36 signs", inMain(result(around(a, 36))), api.ErrTreeNest)
	wantWrong(t, "36 signs at the right", inMain(result(binary(a, "+", around(a, 35)))), api.ErrTreeNest)
	wantWrong(t, "36 signs in the last argument", inMain(do(call("f", a, a, around(a, 35)))), api.ErrTreeNest)
	wantWrong(t, "a thousand signs", inMain(result(around(a, 1000))), api.ErrTreeNest)
	wantWrong(t, "65000 signs", inMain(result(around(a, 65000))), api.ErrTreeNest)
}

// TestNestAheadOfForm: of two faults the depth is told, wherever they stand, and whatever the node is.
func TestNestAheadOfForm(t *testing.T) {
	a, deep := name("a"), around(name("a"), 40)
	wantWrong(t, "no file", deep, api.ErrTreeNest)
	wantWrong(t, "no file, just deep enough", around(a, 39), api.ErrTreeForm)
	wantWrong(t, "a kind that is none", api.Node{Kind: 99, Kids: []api.Node{deep}}, api.ErrTreeNest)
	wantWrong(t, "a wrong statement ahead", inMain(none(), result(deep)), api.ErrTreeNest)
	wantWrong(t, "a wrong statement behind", inMain(result(deep), none()), api.ErrTreeNest)
	wantWrong(t, "a wrong leaf", inMain(result(around(name("_"), 36))), api.ErrTreeNest)
	wantWrong(t, "a wrong leaf at 40", inMain(result(around(name("_"), 35))), api.ErrTreeForm)
	wantWrong(t, "kids where none may be", inMain(node(api.NodeBreak, deep)), api.ErrTreeNest)
}

// TestRightOfSharedKids: nodes that have the same kids in memory are each looked at.
func TestRightOfSharedKids(t *testing.T) {
	a := name("a")
	shared := []api.Node{a, a}
	good, bad := api.Node{Kind: api.NodeBinary, Text: "+", Kids: shared}, api.Node{Kind: api.NodeBinary, Text: "!", Kids: shared}
	wantExpression(t, binary(good, "+", good), "a + a + (a + a)")
	wantWrong(t, "a wrong node with shared kids", inMain(result(good), result(bad)), api.ErrTreeForm)
	stmts := []api.Node{leave(), again()}
	in := api.Node{Kind: api.NodeBlock, Kids: stmts}
	wantText(t, inMain(in, in), "func main() {\n\t{\n\t\tbreak\n\t\tcontinue\n\t}\n\t{\n\t\tbreak\n\t\tcontinue\n\t}\n}\n")
	wantWrong(t, "statements as arguments", inMain(in, do(api.Node{Kind: api.NodeCall, Text: "f", Kids: stmts})), api.ErrTreeForm)
	part := api.Node{Kind: api.NodeBlock, Kids: []api.Node{leave(), do(name("a"))}}
	shorter := part
	shorter.Kids = part.Kids[:1]
	wantText(t, inMain(shorter), "func main() {\n\t{\n\t\tbreak\n\t}\n}\n")
	wantWrong(t, "a longer list at the same place", inMain(shorter, part), api.ErrTreeForm)
}

// TestRightOfDoubledKids: so many nodes that nobody could look at each of them.
func TestRightOfDoubledKids(t *testing.T) {
	for _, leaf := range []sample{{name("a"), ""}, {name("_"), "wrong"}} {
		n, want := leaf.n, api.OK
		for range 35 {
			n = binary(n, "+", n)
		}
		if leaf.text != "" {
			want = api.ErrTreeForm
		}
		if e := tree.Right(inMain(result(n))); e != want {
			t.Errorf("Right of a doubled %s leaf: %d, not %d", leaf.text, e, want)
		}
		wantWrong(t, "too deep", inMain(result(binary(n, "+", n))), api.ErrTreeNest)
	}
	// The innermost If and its Block are two more.
	in := block()
	for range 36 {
		in = block(in, choice(name("a"), block()), in)
	}
	if e := tree.Right(file(function("main", "", in))); e != api.OK {
		t.Errorf("Right of doubled blocks: %d", e)
	}
}
