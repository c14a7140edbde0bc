package parse_test

import (
	"math/rand"
	"slices"
	"strings"
	"testing"

	"drowse/api"
	"drowse/lex"
	"drowse/types"
	"drowse/words"
)

// layer lays a tree out as a source, with blanks, line ends, remarks and brackets at random, and tells where each node stands.
type layer struct {
	r     *rand.Rand
	src   strings.Builder
	line  int
	last  string // the token ahead
	calls bool   // whether a line's end behind that puts in a semicolon
	ats   []api.Token
}

func (l *layer) often(times int) bool { return l.r.Intn(times) != 0 }

func (l *layer) write(s string) {
	l.src.WriteString(s)
	l.line += strings.Count(s, "\n")
}

// partThemselves tells whether two tokens stay two with nothing between.
func partThemselves(one, other string) bool {
	both, err := lex.Scan(one + other)
	return err == nil && len(both) > 1 && both[1].At == len(one) && both[1].Kind != api.TokenEnd
}

// callsForSemi tells whether a line's end behind a token puts in a semicolon.
func callsForSemi(token string) bool {
	l, err := lex.Scan(token + "\n")
	return err == nil && len(l) > 1 && l[1].Kind == api.TokenSemi
}

// apart writes what may stand between the last token and the next one.
func (l *layer) apart(next string) {
	if !partThemselves(l.last, next) || l.often(3) {
		l.write(" ")
	}
	if !l.calls && l.last != "" && l.r.Intn(8) == 0 {
		l.write([]string{"\n", "\n\t", " // a remark; {\n", "\r\n", " //\n\n"}[l.r.Intn(5)])
	}
}

// put writes a token, and is where it stands.
func (l *layer) put(text string) api.Token {
	l.apart(text)
	at := api.Token{Text: text, At: l.src.Len(), Line: l.line}
	l.write(text)
	l.last = text
	l.calls = callsForSemi(text)
	l.ats = append(l.ats, at)
	return at
}

// semi writes one semicolon or more.
func (l *layer) semi() {
	if l.calls && l.often(2) {
		l.write([]string{"\n", "  \n", " // a remark\n", "\t\r\n"}[l.r.Intn(4)])
	} else {
		l.put(";")
	}
	l.last, l.calls = "", false
	l.semis()
}

// semis writes any number of semicolons behind one, or behind what calls for none.
func (l *layer) semis() {
	for range l.r.Intn(6) - 3 {
		l.write([]string{";", "\n", " ", "\n;"}[l.r.Intn(4)])
	}
}

func at(n api.Node, t api.Token) api.Node {
	n.At, n.Line = t.At, t.Line
	n.Kids = slices.Clone(n.Kids)
	return n
}

func (l *layer) typeText(t string) {
	if !l.often(6) {
		l.put("(")
		l.typeText(t)
		l.put(")")
		return
	}
	dir, elem, ok := types.Split(t)
	switch {
	case !ok:
		l.put(t)
		return
	case dir == 0:
		l.put("chan")
	case dir == 1:
		l.put("chan")
		l.put("<-")
	case dir == 2:
		l.put("<-")
		l.put("chan")
	}
	if dir == 0 && strings.HasPrefix(elem, "<-") {
		l.put("(")
		l.typeText(elem)
		l.put(")")
		return
	}
	l.typeText(elem)
}

// tightness is how tight an expression holds together; what stands alone most.
func tightness(n api.Node) int {
	switch n.Kind {
	case api.NodeBinary:
		return slices.IndexFunc(bindingSigns(), func(l []string) bool { return slices.Contains(l, n.Text) })
	case api.NodeUnary:
		return 5
	}
	return 6
}

// expr lays an expression out where one stands that must be so tight.
func (l *layer) expr(n api.Node, tight int) api.Node {
	if tightness(n) < tight || !l.often(7) {
		l.put("(")
		n = l.expr(n, 0)
		l.put(")")
		return n
	}
	return l.bare(n)
}

// bare lays an expression out without brackets around it.
func (l *layer) bare(n api.Node) api.Node {
	switch n.Kind {
	case api.NodeInt:
		return at(n, l.put(words.Int(n.N)))
	case api.NodeBool:
		return at(n, l.put([]string{"false", "true"}[n.N]))
	case api.NodeNil:
		return at(n, l.put("nil"))
	case api.NodeText:
		return at(n, l.put(words.Quote(n.Text)))
	case api.NodeUnary:
		n = at(n, l.put(n.Text))
		n.Kids[0] = l.expr(n.Kids[0], 5)
	case api.NodeBinary:
		left := l.expr(n.Kids[0], tightness(n))
		n = at(n, l.put(n.Text))
		n.Kids[0], n.Kids[1] = left, l.expr(n.Kids[1], tightness(n)+1)
	case api.NodeMethod:
		first := l.expr(n.Kids[0], 6)
		n = at(n, l.put("."))
		l.put(n.Text)
		n.Kids[0] = first
		l.arguments(n.Kids[1:])
	case api.NodeMake:
		n = at(n, l.put("make"))
		l.put("(")
		l.typeText(n.Type)
		if len(n.Kids) > 0 {
			l.put(",")
			n.Kids[0] = l.expr(n.Kids[0], 0)
		}
		l.put(")")
	default:
		n = at(n, l.put(n.Text))
		if n.Kind == api.NodeCall {
			l.arguments(n.Kids)
		}
	}
	return n
}

func (l *layer) arguments(args []api.Node) {
	l.put("(")
	l.parted(args)
	l.put(")")
}

func (l *layer) parted(es []api.Node) {
	for i := range es {
		if i > 0 {
			l.put(",")
		}
		if es[i].Kind == api.NodeText {
			es[i] = l.bare(es[i])
		} else {
			es[i] = l.expr(es[i], 0)
		}
	}
}

// simple lays out a statement that can stand in a For's head or behind an Arm's `case`.
func (l *layer) simple(n api.Node, arm bool) api.Node {
	first := len(l.ats)
	kids := slices.Clone(n.Kids)
	n.Kids = kids
	switch n.Kind {
	case api.NodeNone:
		return api.Node{}
	case api.NodeSend:
		kids[0] = l.expr(kids[0], 0)
		sign := l.put("<-")
		kids[1] = l.expr(kids[1], 0)
		return at(n, sign)
	case api.NodeDo:
		kids[0] = l.expr(kids[0], 0)
	case api.NodeStep:
		kids[0] = l.bare(kids[0])
		l.put([]string{"--", "", "++"}[n.N+1])
	default:
		last := len(kids) - 1
		for i := range last {
			if i > 0 {
				l.put(",")
			}
			kids[i] = l.bare(kids[i])
		}
		l.put(map[api.NodeKind]string{api.NodeDefine: ":=", api.NodeAssign: "="}[n.Kind])
		if arm || n.N == 2 {
			kids[last] = l.bare(kids[last])
		} else {
			kids[last] = l.expr(kids[last], 0)
		}
	}
	return at(n, l.ats[first])
}

func (l *layer) block(n api.Node) api.Node {
	n = at(n, l.put("{"))
	l.list(n.Kids)
	l.put("}")
	return n
}

func (l *layer) list(stmts []api.Node) {
	l.semis()
	for i := range stmts {
		if i > 0 {
			l.semi()
		}
		stmts[i] = l.stmt(stmts[i])
	}
	if len(stmts) > 0 && l.often(2) {
		l.semi()
	}
}

func (l *layer) stmt(n api.Node) api.Node {
	switch n.Kind {
	case api.NodeVar:
		n = at(n, l.put("var"))
		l.put(n.Text)
		l.typeText(n.Type)
		if len(n.Kids) > 0 {
			l.put("=")
			n.Kids[0] = l.expr(n.Kids[0], 0)
		}
	case api.NodeIf:
		n = at(n, l.put("if"))
		n.Kids[0] = l.expr(n.Kids[0], 0)
		n.Kids[1] = l.block(n.Kids[1])
		if len(n.Kids) > 2 {
			l.put("else")
			n.Kids[2] = l.stmt(n.Kids[2])
		}
	case api.NodeFor:
		return l.loop(n)
	case api.NodeSwitch:
		n = at(n, l.put("switch"))
		if n.N == 1 {
			n.Kids[0] = l.expr(n.Kids[0], 0)
		}
		l.clauses(n.Kids[n.N:])
	case api.NodeSelect:
		n = at(n, l.put("select"))
		l.clauses(n.Kids)
	case api.NodeGo:
		n = at(n, l.put("go"))
		n.Kids[0] = l.bare(n.Kids[0])
	case api.NodeReturn:
		n = at(n, l.put("return"))
		l.parted(n.Kids)
	case api.NodeBreak:
		return at(n, l.put("break"))
	case api.NodeContinue:
		return at(n, l.put("continue"))
	case api.NodeBlock:
		return l.block(n)
	default:
		return l.simple(n, false)
	}
	return n
}

func (l *layer) loop(n api.Node) api.Node {
	n = at(n, l.put("for"))
	switch n.N {
	case 1:
		n.Kids[0] = l.expr(n.Kids[0], 0)
	case 2:
		n.Kids[0] = l.simple(n.Kids[0], false)
		l.put(";")
		if n.Kids[1].Kind != api.NodeNone {
			n.Kids[1] = l.expr(n.Kids[1], 0)
		}
		l.put(";")
		n.Kids[2] = l.simple(n.Kids[2], false)
	case 3:
		if n.Text != "" {
			n.Kids[0] = l.bare(n.Kids[0])
			l.put(n.Text)
		}
		l.put("range")
		n.Kids[1] = l.expr(n.Kids[1], 0)
	}
	last := len(n.Kids) - 1
	n.Kids[last] = l.block(n.Kids[last])
	return n
}

func (l *layer) clauses(kids []api.Node) {
	l.put("{")
	for i, n := range kids {
		last := len(n.Kids) - 1
		switch {
		case n.N == 1:
			n = at(n, l.put("default"))
		case n.Kind == api.NodeCase:
			n = at(n, l.put("case"))
			l.parted(n.Kids[:last])
		default:
			n = at(n, l.put("case"))
			n.Kids[0] = l.simple(n.Kids[0], true)
		}
		n.Kids[last] = at(n.Kids[last], l.put(":"))
		l.list(n.Kids[last].Kids)
		kids[i] = n
	}
	l.put("}")
}

func (l *layer) function(n api.Node) api.Node {
	n = at(n, l.put("func"))
	l.put(n.Text)
	l.put("(")
	last := len(n.Kids) - 1
	for i := range last {
		if i > 0 {
			l.put(",")
		}
		n.Kids[i] = at(n.Kids[i], l.put(n.Kids[i].Text))
		l.typeText(n.Kids[i].Type)
	}
	l.put(")")
	if n.Type != "" {
		l.typeText(n.Type)
	}
	n.Kids[last] = l.block(n.Kids[last])
	return n
}

// laid is a source that is read as the file n, and n with the places of that.
func laid(r *rand.Rand, n api.Node) (string, api.Node) {
	l := layer{r: r, line: 1}
	n = at(n, api.Token{At: 0, Line: 1})
	l.semis()
	for i := range n.Kids {
		if i > 0 {
			l.semi()
		}
		n.Kids[i] = l.function(n.Kids[i])
	}
	if len(n.Kids) > 0 && l.often(2) {
		l.semi()
	}
	return l.src.String(), n
}

// tooDeepAt is the place of the first node that stands too deep, or -1.
func tooDeepAt(n api.Node, above int) int {
	if above >= 40 {
		return n.At
	}
	for _, kid := range n.Kids {
		if at := tooDeepAt(kid, above+1); at >= 0 {
			return at
		}
	}
	return -1
}

// wantLaid: a source is read as the tree of which it was laid out.
func wantLaid(t *testing.T, src string, want api.Node) {
	t.Helper()
	got, fault := parsed(t, src)
	deep := tooDeepAt(want, 0)
	switch {
	case len(src) > api.MaxSource:
		if fault == nil || *fault != (api.Fault{At: 0, Err: api.ErrLexLong}) {
			t.Errorf("a source of %d bytes: %v", len(src), fault)
		}
	case deep >= 0:
		if fault == nil || *fault != (api.Fault{At: deep, Err: api.ErrParseNest}) {
			t.Errorf("%s: %v, not too deep at %d", short(src), fault, deep)
		}
	case fault != nil:
		t.Errorf("%s: %v at .. %.30q", short(src), fault, src[fault.At:])
	case !whole(got, want):
		t.Errorf("%s:\n%s, not\n%s", short(src), shown(got), shown(want))
	}
}

func TestTreesLaidOut(t *testing.T) {
	r := source(8)
	seen := map[api.NodeKind]int{}
	var count func(n api.Node)
	count = func(n api.Node) {
		seen[n.Kind]++
		for _, kid := range n.Kids {
			count(kid)
		}
	}
	deep := 0
	for i := range 6000 {
		g := grower{r, 1 + i%97}
		src, n := laid(r, g.file())
		wantLaid(t, src, n)
		if tooDeepAt(n, 0) < 0 {
			count(n)
		} else {
			deep++
		}
	}
	if deep < 100 {
		t.Errorf("too few that are too deep: %d", deep)
	}
	for k := api.NodeNone; k <= api.NodeMethod; k++ {
		if seen[k] < 100 {
			t.Errorf("too few of the kind %s: %d", kindName(k), seen[k])
		}
	}
}
