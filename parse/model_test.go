package parse_test

import (
	"fmt"
	"math/rand"
	"slices"
	"strings"
	"testing"

	"drowse/api"
	"drowse/lex"
	"drowse/words"
)

// grammar is the chapter's, with what stands under 'And' written into its rules: Next is a Simple that is no Define; Do and Got have their brackets; Two is two BLANKs of which one at least is not `_`; of Cases and Arms one may be a default.
const grammar = `
File    = { ";" } [ Func { ";" { ";" } Func } { ";" } ] END .
Func    = "func" NAME "(" [ Param { "," Param } ] ")" [ Type ] Block .
Param   = NAME Type .
Type    = "int" | "bool" | "Mutex" | "WaitGroup" | "chan" Type | "chan" "<-" Type | "<-" "chan" Type | "(" Type ")" .
Block   = "{" List "}" .
List    = { ";" } [ Stmt { ";" { ";" } Stmt } { ";" } ] .
Stmt    = Simple | "var" NAME Type [ "=" E ] | If | For | Switch | Select | "go" NAME Args | "return" [ E ] | "break" | "continue" | Block .
Simple  = Define | Next .
Next    = Assign | NAME "++" | NAME "--" | E "<-" E | Do .
Define  = NAME ":=" E | Two ":=" Receive .
Two     = NAME "," BLANK | BLANK "," NAME .
Assign  = BLANK "=" E | BLANK "," BLANK "=" Receive .
Do      = Call | Called | Receive | "(" Do ")" .
If      = "if" E Block [ "else" ( If | Block ) ] .
For     = "for" Block | "for" E Block | "for" [ Simple ] ";" [ E ] ";" [ Next ] Block
        | "for" [ NAME ( ":=" | "=" ) ] "range" E Block .
Switch  = "switch" [ E ] "{" { Case } [ Default { Case } ] "}" .
Case    = "case" E { "," E } ":" List .
Default = "default" ":" List .
Select  = "select" "{" { Arm } [ Default { Arm } ] "}" .
Arm     = "case" Comm ":" List .
Comm    = E "<-" E | Got | NAME ":=" Receive | BLANK "=" Receive | Two ":=" Receive | BLANK "," BLANK "=" Receive .
Got     = Receive | "(" Got ")" .
E       = Unary | E Op E .
Op      = "||" | "&&" | "==" | "!=" | "<" | "<=" | ">" | ">=" | "+" | "-" | "*" | "/" | "%" .
Unary   = ( "+" | "-" | "!" | "<-" ) Unary | Primary .
Receive = "<-" Unary .
Primary = NAME | INT | "true" | "false" | "nil" | "(" E ")" | Call | "make" "(" Type [ "," E ] ")" | Called .
Call    = NAME Args | ( "len" | "cap" | "close" | "yield" ) Args | "println" "(" [ Item { "," Item } ] ")" .
Called  = Primary "." Method Args .
Args    = "(" [ E { "," E } ] ")" .
Item    = TEXT | E .
Method  = "Lock" | "Unlock" | "Add" | "Done" | "Wait" .
`

// rule is a rule without braces and bars: what a part is made of, one of the ways.
type rule struct {
	of    string
	parts []string
}

// rules is a grammar's rules; repetitions and choices within a rule have parts of their own, named by numbers.
type rules struct {
	all   map[string][]rule
	empty map[string]bool // parts that can be made of nothing
	words []string        // of the grammar that is read, which are left
	made  int
}

func readRules(text string) *rules {
	r := &rules{all: map[string][]rule{}, empty: map[string]bool{}, words: strings.Fields(text)}
	for len(r.words) > 0 {
		name := r.next()
		r.next() // the =
		r.choices(name)
		r.next() // the .
	}
	for changed := true; changed; {
		changed = false
		for name, ways := range r.all {
			for _, w := range ways {
				if !r.empty[name] && !slices.ContainsFunc(w.parts, func(p string) bool { return !r.empty[p] }) {
					r.empty[name], changed = true, true
				}
			}
		}
	}
	return r
}

func (r *rules) next() string {
	w := r.words[0]
	r.words = r.words[1:]
	return w
}

// choices reads the ways of a part, up to what ends them.
func (r *rules) choices(name string) {
	for {
		r.all[name] = append(r.all[name], rule{name, r.parts()})
		if r.words[0] != "|" {
			return
		}
		r.next()
	}
}

func (r *rules) parts() []string {
	var l []string
	for {
		w := r.words[0]
		switch w {
		case "|", ".", "}", "]", ")":
			return l
		}
		r.next()
		if w != "{" && w != "[" && w != "(" {
			l = append(l, w)
			continue
		}
		r.made++
		name := fmt.Sprint("part ", r.made)
		inner := name
		if w == "{" {
			inner = name + " once"
			r.all[name] = []rule{{name, nil}, {name, []string{name, inner}}}
		} else if w == "[" {
			r.all[name] = []rule{{name, nil}}
		}
		r.choices(inner)
		r.next()
		l = append(l, name)
	}
}

// item is a way that has been gone through up to a place, from the token on at which it began.
type item struct {
	way  *rule
	done int
	from int
}

func (i item) next() string {
	if i.done == len(i.way.parts) {
		return ""
	}
	return i.way.parts[i.done]
}

// model says of tokens whether a File begins with them: it goes all ways at once.
type model struct {
	rules *rules
	sets  [][]item
}

func newModel() *model {
	m := &model{rules: readRules(grammar)}
	m.sets = [][]item{m.closed(m.begin("File", 0))}
	return m
}

func (m *model) begin(name string, at int) []item {
	var l []item
	ways := m.rules.all[name]
	for i := range ways {
		l = append(l, item{&ways[i], 0, at})
	}
	return l
}

// closed is a set with all that follows from it at its place, which is the one behind the sets there are.
func (m *model) closed(l []item) []item {
	at := len(m.sets)
	held := map[item]bool{}
	begun := map[string]bool{}
	var all []item
	add := func(i item) {
		if !held[i] {
			held[i] = true
			all = append(all, i)
		}
	}
	for _, i := range l {
		add(i)
	}
	for k := 0; k < len(all); k++ {
		i := all[k]
		name := i.next()
		switch {
		case name == "" && i.from < at:
			for _, outer := range m.sets[i.from] {
				if outer.next() == i.way.of {
					add(item{outer.way, outer.done + 1, outer.from})
				}
			}
		case name != "":
			if m.rules.empty[name] {
				add(item{i.way, i.done + 1, i.from})
			}
			if !begun[name] {
				begun[name] = true
				for _, b := range m.begin(name, at) {
					add(b)
				}
			}
		}
	}
	return all
}

// fits tells whether a token is what a rule asks for by that name.
func fits(name string, t api.Token) bool {
	switch name {
	case "NAME":
		return t.Kind == api.TokenName && t.Text != "_"
	case "BLANK":
		return t.Kind == api.TokenName
	case "INT":
		return t.Kind == api.TokenInt
	case "TEXT":
		return t.Kind == api.TokenText
	case "END":
		return t.Kind == api.TokenEnd
	case `";"`:
		return t.Kind == api.TokenSemi
	}
	return (t.Kind == api.TokenWord || t.Kind == api.TokenSign || t.Kind == api.TokenName) && name == `"`+t.Text+`"`
}

// can tells whether a File begins with the tokens taken and t.
func (m *model) can(t api.Token) bool {
	return slices.ContainsFunc(m.sets[len(m.sets)-1], func(i item) bool { return fits(i.next(), t) })
}

// take goes on by a token, if it can.
func (m *model) take(t api.Token) bool {
	var l []item
	for _, i := range m.sets[len(m.sets)-1] {
		if fits(i.next(), t) {
			l = append(l, item{i.way, i.done + 1, i.from})
		}
	}
	if len(l) == 0 {
		return false
	}
	m.sets = append(m.sets, m.closed(l))
	return true
}

// back forgets all but the first tokens.
func (m *model) back(size int) { m.sets = m.sets[:size+1] }

func (m *model) size() int { return len(m.sets) - 1 }

// wrong is the place of the first token with which no File begins, or -1.
func (m *model) wrong(l []api.Token) int {
	defer m.back(m.size())
	for _, t := range l {
		if !m.take(t) {
			return t.At
		}
	}
	return -1
}

func scanned(t *testing.T, src string) []api.Token {
	t.Helper()
	l, err := lex.Scan(src)
	if err != nil {
		t.Fatalf("%q: %v", src, err)
	}
	return l
}

// everyToken is one token of each sort, as it is written: names, each word and sign, a number, texts, a line's end; and nothing.
func everyToken() []string {
	l := append(words.Words(), lex.Signs()...)
	return append(l, "x", "_", "Lock", "Wait", "1", `"a"`, `"("`, "\n", "")
}

// wantModel: Parse of a source tells the fault of a token just where the model, which has gone through the first tokens, does.
func wantModel(t *testing.T, m *model, src string) {
	t.Helper()
	l := scanned(t, src)
	want := m.wrong(l[m.size():])
	n, fault := parsed(t, src)
	switch {
	case want < 0 && fault != nil && fault.Err != api.ErrParseNest:
		t.Errorf("%s: %v, but it is a File", short(src), fault)
	case want >= 0 && fault == nil:
		t.Errorf("%s: %s, not a fault at %d", short(src), shown(n), want)
	case want >= 0 && (fault.Err != api.ErrParseToken || fault.At != want):
		t.Errorf("%s: %v, not a token's fault at %d", short(src), fault, want)
	}
}

// eachPrefix calls do with what stands ahead of each token of a source and of its end; the model has gone through that.
func eachPrefix(t *testing.T, src string, do func(m *model, ahead string)) {
	t.Helper()
	m := newModel()
	for _, tok := range scanned(t, src) {
		do(m, src[:tok.At])
		if !m.take(tok) {
			t.Fatalf("the model refuses the token at %d of %q", tok.At, src)
		}
	}
}

func TestEachTokenBehindEachPrefix(t *testing.T) {
	tokens := everyToken()
	asked := map[string]bool{}
	for _, src := range sources() {
		eachPrefix(t, src, func(m *model, ahead string) {
			if asked[ahead] {
				return
			}
			asked[ahead] = true
			for _, text := range tokens {
				wantModel(t, m, ahead+" "+text)
			}
		})
	}
}

func TestCutOffBehindEachToken(t *testing.T) {
	eachPrefix(t, allForms(), func(m *model, ahead string) {
		wantModel(t, m, ahead)
		wantModel(t, m, ahead+" }")
		wantModel(t, m, ahead+" )")
	})
}

// goFurther asks of all rows of so many tokens behind ahead, as long as a File begins with them.
func goFurther(t *testing.T, m *model, ahead string, tokens []string, most int) {
	for _, text := range tokens {
		src := ahead + " " + text
		wantModel(t, m, src+" }")
		l := scanned(t, src+" x")
		size := m.size()
		if most > 1 && len(l) > size+1 && l[size].At >= len(ahead) && m.take(l[size]) {
			goFurther(t, m, src, tokens, most-1)
			m.back(size)
		}
	}
}

func TestAllShortRows(t *testing.T) {
	tokens := []string{"x", "_", "Lock", "1", `"a"`, ";", "(", ")", "{", "}", ",", ":", ":=", "=", "<-", "++", "+", "-", "*", ".", "range", "case", "default", "if", "else", "for", "return", "go", "var", "int", "chan", "make", "len", "println", "switch", "select", "true", "func"}
	for _, ahead := range []string{"", "func", "func f(", "func f()", "func f() {", "func f() { x", "func f() { _", "func f() { (", "func f() { <-", "func f() { x, y", "func f() { f(", "func f() { println(", "func f() { make(", "func f() { x.", "func f() { var x", "func f() { go", "func f() { if a {} else", "func f() { for", "func f() { for x", "func f() { for ;", "func f() { for ;;", "func f() { for range", "func f() { switch", "func f() { switch { case", "func f() { switch { default: case a:", "func f() { select {", "func f() { select { case", "func f() { select { case x", "func f() { select { default: f()"} {
		m := newModel()
		l := scanned(t, ahead+" x")
		for _, tok := range l[:len(l)-3] {
			if !m.take(tok) {
				t.Fatalf("the model refuses %q", ahead)
			}
		}
		goFurther(t, m, ahead, tokens, 3)
	}
}

// changed is a row of tokens with some of them taken out, put in, doubled, changed or swapped.
func changed(r *rand.Rand, l []string, tokens []string) []string {
	l = slices.Clone(l)
	for range r.Intn(4) {
		at := r.Intn(len(l))
		switch r.Intn(5) {
		case 0:
			l = slices.Delete(l, at, at+1)
		case 1:
			l = slices.Insert(l, at, tokens[r.Intn(len(tokens))])
		case 2:
			l[at] = tokens[r.Intn(len(tokens))]
		case 3:
			l = slices.Insert(l, at, l[at])
		case 4:
			other := r.Intn(len(l))
			l[at], l[other] = l[other], l[at]
		}
	}
	return l
}

func TestChangedSources(t *testing.T) {
	r := source(6)
	tokens := everyToken()
	m := newModel()
	stmts := forms()
	for range 4000 {
		src := "func f() {"
		for range 1 + r.Intn(3) {
			src += stmts[r.Intn(len(stmts))] + ";"
		}
		var l []string
		toks := scanned(t, src+"}")
		for i, tok := range toks[:len(toks)-1] {
			l = append(l, (src + "}")[tok.At:toks[i+1].At])
		}
		wantModel(t, m, strings.Join(changed(r, l, tokens), " "))
	}
}

func TestRowsOfAnyTokens(t *testing.T) {
	r := source(7)
	tokens := everyToken()
	m := newModel()
	for range 5000 {
		src := "func f() { "
		for range r.Intn(9) {
			src += tokens[r.Intn(len(tokens))] + " "
		}
		wantModel(t, m, src)
		wantModel(t, m, src+"}")
	}
}
