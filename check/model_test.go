package check_test

import (
	"errors"
	"slices"
	"strings"

	"drowse/api"
	"drowse/tree"
)

// The model reads the chapter another way than the program: what is seen is a chain of names that is handed on from statement to statement, what is used is looked up in the tree when all is told, and a fault is an error that goes up.

// link is a name that is seen, and in which scope it was declared; the nearest one comes first.
type link struct {
	text, of    string
	slot, scope int
	next        *link
}

func (l *link) seek(text string) *link {
	for ; l != nil; l = l.next {
		if l.text == text {
			return l
		}
	}
	return nil
}

// spot is where a statement stands: what is seen, in which scope, and whether a For, and whether any of the three, is around.
type spot struct {
	seen            *link
	scope           int
	inFor, inAnyone bool
}

// model is a function that is gone through.
type model struct {
	file   api.Node
	result string
	places []int // where each variable was declared
	scopes int
}

func wrong(n api.Node, e api.Errno) error { return &api.Fault{At: n.At, Err: e} }

func unless(ok bool, n api.Node, e api.Errno) error {
	if ok {
		return nil
	}
	return wrong(n, e)
}

// firstOf is the first error there is.
func firstOf(l ...error) error {
	for _, e := range l {
		if e != nil {
			return e
		}
	}
	return nil
}

func isText(of string) bool { return of != "nil" && of != "" }

// fits is chapter 4's assignable.
func fits(from, to string) bool {
	if !isText(to) {
		return false
	}
	if from == to || from == "nil" && to != "int" && to != "bool" {
		return true
	}
	elem, sends, receives := through(from)
	return sends && receives && (to == "chan<- "+elem || to == "<-chan "+elem)
}

// through is what goes through a channel, and whether one may send, receive.
func through(of string) (elem string, sends, receives bool) {
	if e, ok := strings.CutPrefix(of, "chan<- "); ok {
		return e, true, false
	}
	if e, ok := strings.CutPrefix(of, "<-chan "); ok {
		return e, false, true
	}
	if e, ok := strings.CutPrefix(of, "chan ("); ok {
		return strings.TrimSuffix(e, ")"), true, true
	}
	if e, ok := strings.CutPrefix(of, "chan "); ok {
		return e, true, true
	}
	return "", false, false
}

// modelled is what Check must answer.
func modelled(file api.Node) (api.Node, *api.Fault) {
	if e := tree.Right(file); e != api.OK {
		return api.Node{}, &api.Fault{Err: e}
	}
	told := changed(file, func(n *api.Node) {
		n.Slot = 0
		if n.Kind >= api.NodeName && n.Kind != api.NodeMake && n.Kind != api.NodeText {
			n.Type = ""
		}
	})
	err := firstOf(modelHeads(told), modelMain(told))
	for i := range told.Kids {
		if err == nil {
			err = modelBody(told, &told.Kids[i])
		}
	}
	var fault *api.Fault
	if errors.As(err, &fault) {
		return api.Node{}, fault
	}
	return told, nil
}

func modelHeads(file api.Node) error {
	for i, f := range file.Kids {
		ps := f.Kids[:len(f.Kids)-1]
		named := func(n api.Node) bool { return n.Text == f.Text }
		err := firstOf(unless(i < 100, f, api.ErrCheckMany), unless(!slices.ContainsFunc(file.Kids[:i], named), f, api.ErrCheckTwice), unless(len(ps) <= 8, f, api.ErrCheckMany))
		for j, p := range ps {
			same := func(n api.Node) bool { return n.Text == p.Text }
			err = firstOf(err, unless(!slices.ContainsFunc(ps[:j], same), p, api.ErrCheckTwice))
		}
		if err != nil {
			return err
		}
	}
	return nil
}

func modelMain(file api.Node) error {
	i := slices.IndexFunc(file.Kids, func(n api.Node) bool { return n.Text == "main" })
	if i < 0 {
		return wrong(api.Node{}, api.ErrCheckMain)
	}
	return unless(len(file.Kids[i].Kids) == 1 && file.Kids[i].Type == "", file.Kids[i], api.ErrCheckMain)
}

func modelBody(file api.Node, f *api.Node) error {
	m := model{file: file, result: f.Type}
	in := spot{}
	last := len(f.Kids) - 1
	for i := range last {
		if err := m.declare(&f.Kids[i], f.Kids[i].Type, &in); err != nil {
			return err
		}
	}
	if err := m.list(f.Kids[last].Kids, in); err != nil {
		return err
	}
	if f.Type != "" {
		left := map[*api.Node]bool{}
		markLeft(&f.Kids[last], nil, left)
		if !modelEnds(&f.Kids[last], left) {
			return wrong(*f, api.ErrCheckReturn)
		}
	}
	f.Slot = len(m.places)
	used := make([]bool, len(m.places))
	markUsed(f.Kids[last], used)
	for i := last; i < len(used); i++ {
		if !used[i] {
			return &api.Fault{At: m.places[i], Err: api.ErrCheckUnused}
		}
	}
	return nil
}

// markUsed marks the slots of all Names that are expressions.
func markUsed(n api.Node, used []bool) {
	from := 0
	switch n.Kind {
	case api.NodeName:
		used[n.Slot] = true
	case api.NodeDefine, api.NodeAssign:
		from = int(n.N)
	case api.NodeStep:
		from = 1
	case api.NodeFor:
		if n.N == 3 {
			from = 1
		}
	}
	for _, kid := range n.Kids[from:] {
		markUsed(kid, used)
	}
}

// markLeft marks each For, Switch and Select of which a Break speaks.
func markLeft(n, around *api.Node, left map[*api.Node]bool) {
	switch n.Kind {
	case api.NodeBreak:
		left[around] = true
	case api.NodeFor, api.NodeSwitch, api.NodeSelect:
		around = n
	}
	for i := range n.Kids {
		markLeft(&n.Kids[i], around, left)
	}
}

func modelEnds(n *api.Node, left map[*api.Node]bool) bool {
	count := len(n.Kids)
	all := func(kids []api.Node) bool {
		for i := range kids {
			if !modelEnds(&kids[i], left) {
				return false
			}
		}
		return true
	}
	switch n.Kind {
	case api.NodeReturn:
		return true
	case api.NodeBlock, api.NodeCase, api.NodeArm:
		return count > 0 && modelEnds(&n.Kids[count-1], left)
	case api.NodeIf:
		return count == 3 && all(n.Kids[1:])
	case api.NodeFor:
		return !left[n] && (n.N == 0 || n.N == 2 && n.Kids[1].Kind == api.NodeNone)
	case api.NodeSwitch:
		isDefault := func(n api.Node) bool { return n.Kind == api.NodeCase && n.N == 1 }
		return !left[n] && slices.ContainsFunc(n.Kids, isDefault) && all(n.Kids[n.N:])
	case api.NodeSelect:
		return !left[n] && all(n.Kids)
	}
	return false
}

func (m *model) declare(n *api.Node, of string, in *spot) error {
	for l := in.seen; l != nil; l = l.next {
		if l.text == n.Text && l.scope == in.scope {
			return wrong(*n, api.ErrCheckTwice)
		}
	}
	if len(m.places) >= 200 {
		return wrong(*n, api.ErrCheckMany)
	}
	n.Type, n.Slot = of, len(m.places)
	in.seen = &link{n.Text, of, n.Slot, in.scope, in.seen}
	m.places = append(m.places, n.At)
	return nil
}

// inner is the spot in a new scope.
func (m *model) inner(in spot) spot {
	m.scopes++
	in.scope = m.scopes
	return in
}

func (m *model) list(l []api.Node, in spot) error {
	for i := range l {
		var err error
		if in, err = m.statement(&l[i], in); err != nil {
			return err
		}
	}
	return nil
}

// name gives a Name that is no expression its variable's marks.
func (m *model) name(n *api.Node, in spot) error {
	if n.Text == "_" {
		n.Slot = -1
		return nil
	}
	l := in.seen.seek(n.Text)
	if l == nil {
		return wrong(*n, api.ErrCheckName)
	}
	n.Type, n.Slot = l.of, l.slot
	return nil
}

// statement is where the next one stands.
func (m *model) statement(n *api.Node, in spot) (spot, error) {
	kids := n.Kids
	var err error
	switch n.Kind {
	case api.NodeBlock:
		err = m.list(kids, m.inner(in))
	case api.NodeVar:
		for i := range kids {
			if err = m.value(&kids[i], in); err == nil {
				err = unless(fits(kids[i].Type, n.Type), *n, api.ErrCheckType)
			}
		}
		if err == nil {
			err = m.declare(n, n.Type, &in)
		}
	case api.NodeDefine:
		err = m.define(n, &in)
	case api.NodeAssign:
		err = m.assign(n, in)
	case api.NodeStep:
		if err = m.name(&kids[0], in); err == nil {
			err = unless(kids[0].Type == "int", kids[0], api.ErrCheckType)
		}
	case api.NodeSend:
		if err = m.values(kids, in); err == nil {
			elem, sends, _ := through(kids[0].Type)
			err = unless(sends && fits(kids[1].Type, elem), *n, api.ErrCheckType)
		}
	case api.NodeDo:
		if err = m.values(kids, in); err == nil && kids[0].Kind == api.NodeCall {
			err = unless(kids[0].Text != "len" && kids[0].Text != "cap", *n, api.ErrCheckType)
		}
	case api.NodeGo:
		err = m.values(kids, in)
	case api.NodeIf:
		if err = m.truth(&kids[0], n, in); err == nil {
			err = m.list(kids[1:], in)
		}
	case api.NodeFor:
		err = m.loop(n, m.inner(in))
	case api.NodeSwitch, api.NodeSelect:
		err = m.choice(n, in)
	case api.NodeReturn:
		err = unless(len(kids) == min(1, len(m.result)), *n, api.ErrCheckCount)
		if err == nil && len(kids) == 1 {
			if err = m.value(&kids[0], in); err == nil {
				err = unless(fits(kids[0].Type, m.result), *n, api.ErrCheckType)
			}
		}
	case api.NodeBreak:
		err = unless(in.inAnyone, *n, api.ErrCheckPlace)
	case api.NodeContinue:
		err = unless(in.inFor, *n, api.ErrCheckPlace)
	}
	return in, err
}

func (m *model) define(n *api.Node, in *spot) error {
	e := &n.Kids[n.N]
	if err := m.value(e, *in); err != nil {
		return err
	}
	if n.N == 1 && !isText(e.Type) {
		return wrong(*n, api.ErrCheckType)
	}
	for i, of := range []string{e.Type, "bool"}[:n.N] {
		target := &n.Kids[i]
		var err error
		if target.Text == "_" {
			err = m.name(target, *in)
		} else {
			err = m.declare(target, of, in)
		}
		if err != nil {
			return err
		}
	}
	return nil
}

func (m *model) assign(n *api.Node, in spot) error {
	for i := range n.N {
		if err := m.name(&n.Kids[i], in); err != nil {
			return err
		}
	}
	e := &n.Kids[n.N]
	if err := m.value(e, in); err != nil {
		return err
	}
	for i, of := range []string{e.Type, "bool"}[:n.N] {
		target := n.Kids[i]
		if target.Text == "_" && !isText(of) || target.Text != "_" && !fits(of, target.Type) {
			return wrong(target, api.ErrCheckType)
		}
	}
	return nil
}

func (m *model) truth(e, of *api.Node, in spot) error {
	if err := m.value(e, in); err != nil {
		return err
	}
	return unless(e.Type == "bool", *of, api.ErrCheckType)
}

func (m *model) loop(n *api.Node, in spot) error {
	kids := n.Kids
	var err error
	switch {
	case n.N == 1:
		err = m.truth(&kids[0], n, in)
	case n.N == 2:
		if in, err = m.statement(&kids[0], in); err != nil {
			return err
		}
		if kids[1].Kind != api.NodeNone {
			err = m.truth(&kids[1], n, in)
		}
		if err == nil {
			_, err = m.statement(&kids[2], in)
		}
	case n.N == 3:
		if err = m.value(&kids[1], in); err != nil {
			return err
		}
		elem, _, receives := through(kids[1].Type)
		switch {
		case !receives:
			err = wrong(*n, api.ErrCheckType)
		case n.Text == ":=":
			err = m.declare(&kids[0], elem, &in)
		case n.Text == "=":
			if err = m.name(&kids[0], in); err == nil {
				err = unless(fits(elem, kids[0].Type), kids[0], api.ErrCheckType)
			}
		}
	}
	if err != nil {
		return err
	}
	in.inFor, in.inAnyone = true, true
	_, err = m.statement(&kids[len(kids)-1], in)
	return err
}

func (m *model) choice(n *api.Node, in spot) error {
	of := "bool"
	if n.Kind == api.NodeSwitch && n.N == 1 {
		if err := m.value(&n.Kids[0], in); err != nil {
			return err
		}
		if of = n.Kids[0].Type; !isText(of) {
			return wrong(*n, api.ErrCheckType)
		}
	}
	arms := 0
	for _, kid := range n.Kids {
		if kid.Kind == api.NodeArm && kid.N == 0 {
			arms++
		}
	}
	if arms > 50 {
		return wrong(*n, api.ErrCheckMany)
	}
	in.inAnyone = true
	for i := n.N; i < int64(len(n.Kids)); i++ {
		if err := m.clause(&n.Kids[i], of, m.inner(in)); err != nil {
			return err
		}
	}
	return nil
}

func (m *model) clause(n *api.Node, of string, in spot) error {
	last := len(n.Kids) - 1
	for i := range last {
		kid := &n.Kids[i]
		var err error
		if n.Kind == api.NodeArm {
			in, err = m.statement(kid, in)
		} else if err = m.value(kid, in); err == nil {
			err = unless(fits(kid.Type, of) || fits(of, kid.Type), *n, api.ErrCheckType)
		}
		if err != nil {
			return err
		}
	}
	return m.list(n.Kids[last].Kids, in)
}

func (m *model) values(l []api.Node, in spot) error {
	for i := range l {
		if err := m.value(&l[i], in); err != nil {
			return err
		}
	}
	return nil
}

// value gives an expression its type.
func (m *model) value(n *api.Node, in spot) error {
	if err := m.values(n.Kids, in); err != nil {
		return err
	}
	var of [2]string
	for i := range min(2, len(n.Kids)) {
		of[i] = n.Kids[i].Type
	}
	var e api.Errno
	switch n.Kind {
	case api.NodeName:
		return m.name(n, in)
	case api.NodeInt:
		n.Type = "int"
	case api.NodeBool:
		n.Type = "bool"
	case api.NodeNil:
		n.Type = "nil"
	case api.NodeUnary:
		n.Type, e = unaryOf(n.Text, of[0])
	case api.NodeBinary:
		n.Type, e = binaryOf(n.Text, of[0], of[1])
	case api.NodeCall:
		n.Type, e = m.called(n, in)
	case api.NodeMake:
		e = madeOf(n.Type, len(n.Kids), of[0])
	case api.NodeMethod:
		e = methodOf(n.Text, len(n.Kids), of)
	}
	return unless(e == api.OK, *n, e)
}

func unaryOf(sign, of string) (string, api.Errno) {
	elem, _, receives := through(of)
	switch {
	case sign == "<-" && receives:
		return elem, api.OK
	case sign == "!" && of == "bool", (sign == "+" || sign == "-") && of == "int":
		return of, api.OK
	}
	return "", api.ErrCheckType
}

func binaryOf(sign, left, right string) (string, api.Errno) {
	bools, ints := left == "bool" && right == "bool", left == "int" && right == "int"
	ok := map[string]bool{"||": bools, "&&": bools, "==": fits(left, right) || fits(right, left), "!=": fits(left, right) || fits(right, left), "<": ints, "<=": ints, ">": ints, ">=": ints}
	if yes, there := ok[sign]; there && yes {
		return "bool", api.OK
	} else if !there && ints {
		return "int", api.OK
	}
	return "", api.ErrCheckType
}

func madeOf(of string, sizes int, size string) api.Errno {
	switch {
	case of == "int" || of == "bool":
		return api.ErrCheckType
	case sizes > 0 && !strings.Contains(of, "chan"):
		return api.ErrCheckCount
	case sizes > 0 && size != "int":
		return api.ErrCheckType
	}
	return api.OK
}

func methodOf(text string, kids int, of [2]string) api.Errno {
	owner := map[string]string{"Lock": "Mutex", "Unlock": "Mutex", "Add": "WaitGroup", "Done": "WaitGroup", "Wait": "WaitGroup"}[text]
	switch {
	case of[0] != owner:
		return api.ErrCheckType
	case text == "Add" && kids != 2, text != "Add" && kids != 1:
		return api.ErrCheckCount
	case text == "Add" && of[1] != "int":
		return api.ErrCheckType
	}
	return api.OK
}

func (m *model) called(n *api.Node, in spot) (string, api.Errno) {
	elem, sends := "", false
	if len(n.Kids) > 0 {
		elem, sends, _ = through(n.Kids[0].Type)
	}
	switch n.Text {
	case "len", "cap":
		if len(n.Kids) != 1 {
			return "", api.ErrCheckCount
		}
		if elem == "" {
			return "", api.ErrCheckType
		}
		return "int", api.OK
	case "close":
		if len(n.Kids) != 1 {
			return "", api.ErrCheckCount
		}
		if !sends {
			return "", api.ErrCheckType
		}
		return "", api.OK
	case "yield":
		if len(n.Kids) > 0 {
			return "", api.ErrCheckCount
		}
		return "", api.OK
	case "println":
		return "", printed(n.Kids)
	}
	return m.function(n, in)
}

func printed(kids []api.Node) api.Errno {
	if len(kids) > 20 {
		return api.ErrCheckMany
	}
	for _, kid := range kids {
		if kid.Kind != api.NodeText && kid.Type != "int" && kid.Type != "bool" {
			return api.ErrCheckType
		}
	}
	return api.OK
}

func (m *model) function(n *api.Node, in spot) (string, api.Errno) {
	if in.seen.seek(n.Text) != nil {
		return "", api.ErrCheckType
	}
	for i, f := range m.file.Kids {
		if f.Text != n.Text {
			continue
		}
		n.Slot = i
		if len(n.Kids) != len(f.Kids)-1 {
			return "", api.ErrCheckCount
		}
		for j, kid := range n.Kids {
			if !fits(kid.Type, f.Kids[j].Type) {
				return "", api.ErrCheckType
			}
		}
		return f.Type, api.OK
	}
	return "", api.ErrCheckName
}
