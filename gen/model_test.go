package gen_test

import (
	"iter"
	"slices"

	"drowse/api"
)

// player is a goroutine that does statements, by chapter 20's model.
type player struct {
	w      *world
	me     *goer
	file   *api.Node
	frames []*scene
	value  api.Value // what a Return has
	tell   func(event) bool
	next   func() (event, bool)
	stop   func()
	got    *api.Got
}

// scene is a frame: its variables, what was reckoned and is not used yet, and which variables the scopes that are open have declared.
type scene struct {
	vars, kept []api.Value
	scopes     [][]int
}

// signal is how a statement ends.
type signal int

const (
	on signal = iota
	breaks
	continues
	returns
)

// gone is what a player is left with that nobody goes on with.
type gone struct{}

// modelOf is a world in which a checked file is played.
func modelOf(file api.Node, l api.Limits, lots []api.Lot) *world {
	w := &world{limits: l, lots: lots, objects: map[api.Handle]*object{}, gens: map[uint32]uint32{}}
	w.begin = func(w *world, g *goer, number int, params []api.Value) actor {
		p := &player{w: w, me: g, file: &file}
		p.next, p.stop = iter.Pull(func(tell func(event) bool) {
			defer func() {
				if r := recover(); r != nil && r != (gone{}) {
					panic(r)
				}
			}()
			p.tell = tell
			p.function(number)
			p.halt(finished)
		})
		p.frames = []*scene{p.scene(number, params)}
		return p
	}
	main := slices.IndexFunc(file.Kids, func(n api.Node) bool { return n.Text == "main" })
	w.start("main", main, nil)
	return w
}

func (p *player) goOn(got *api.Got) event {
	p.got = got
	e, _ := p.next()
	return e
}

func (p *player) leave() { p.stop() }

func (p *player) roots() []api.Value {
	var l []api.Value
	for _, s := range p.frames {
		l = append(append(l, s.vars...), s.kept...)
	}
	return l
}

func (p *player) halt(e event) {
	if !p.tell(e) {
		panic(gone{})
	}
}

// want goes on when an operation is done; what was got is told, if it was parked.
func (p *player) want(fate api.Fate) *api.Got {
	switch fate {
	case api.Done:
		return nil
	case api.Parked:
		p.halt(parked)
		return p.got
	}
	p.w.die(fate)
	p.halt(died)
	panic("who died goes on")
}

func (p *player) beat() {
	for !p.w.beat() {
		p.halt(paused)
	}
}

func (p *player) top() *scene { return p.frames[len(p.frames)-1] }

func (p *player) scene(number int, params []api.Value) *scene {
	s := &scene{vars: make([]api.Value, p.file.Kids[number].Slot)}
	copy(s.vars, params)
	return s
}

// function does a function whose frame is there already.
func (p *player) function(number int) api.Value {
	p.beat()
	f := &p.file.Kids[number]
	p.scope(func() signal { return p.list(f.Kids[len(f.Kids)-1].Kids) })
	p.frames = p.frames[:len(p.frames)-1]
	v := p.value
	p.value = api.Value{}
	return v
}

// scope does what stands in one; then its variables are nothing.
func (p *player) scope(inside func() signal) signal {
	s := p.top()
	s.scopes = append(s.scopes, nil)
	end := inside()
	last := len(s.scopes) - 1
	for _, slot := range s.scopes[last] {
		s.vars[slot] = api.Value{}
	}
	s.scopes = s.scopes[:last]
	return end
}

func (p *player) declare(slot int) {
	s := p.top()
	last := len(s.scopes) - 1
	s.scopes[last] = append(s.scopes[last], slot)
}

// put is a value put into a target.
func (p *player) put(target api.Node, v api.Value, declares bool) {
	if target.Text == "_" {
		return
	}
	p.top().vars[target.Slot] = v
	if declares {
		p.declare(target.Slot)
	}
}

// hold keeps a value as one that can be reached, till it is let go.
func (p *player) hold(v api.Value) { p.top().kept = append(p.top().kept, v) }

func (p *player) letGo(count int) []api.Value {
	s := p.top()
	at := len(s.kept) - count
	l := slices.Clone(s.kept[at:])
	s.kept = s.kept[:at]
	return l
}

// kids reckons expressions; when all are there, they are used.
func (p *player) kids(l []api.Node) []api.Value {
	count := 0
	for _, n := range l {
		if n.Kind != api.NodeText {
			p.hold(p.expr(n))
			count++
		}
	}
	return p.letGo(count)
}

func (p *player) expr(n api.Node) api.Value {
	switch n.Kind {
	case api.NodeName:
		return p.top().vars[n.Slot]
	case api.NodeInt, api.NodeBool:
		return api.Value{N: n.N}
	case api.NodeNil:
		return api.Value{}
	case api.NodeUnary:
		return p.unary(n)
	case api.NodeBinary:
		return p.binary(n)
	case api.NodeCall:
		return p.call(n)
	case api.NodeMake:
		return p.object(n)
	case api.NodeMethod:
		return p.method(n)
	}
	panic("no expression")
}

func (p *player) unary(n api.Node) api.Value {
	if n.Text == "<-" {
		v, _ := p.receive(n, n.Line)
		return v
	}
	v := p.kids(n.Kids)[0]
	switch n.Text {
	case "-":
		v.N = -v.N
	case "!":
		v.N = 1 - v.N
	}
	return v
}

// receive is a Unary `<-`, parked on a line.
func (p *player) receive(n api.Node, line int) (api.Value, bool) {
	return p.take(p.kids(n.Kids)[0], line)
}

func (p *player) take(channel api.Value, line int) (api.Value, bool) {
	p.w.line = line
	v, ok, fate := p.w.recv(channel.H)
	if got := p.want(fate); got != nil {
		return got.V, got.OK
	}
	return v, ok
}

func (p *player) binary(n api.Node) api.Value {
	if n.Text == "&&" || n.Text == "||" {
		v := p.expr(n.Kids[0])
		if (v.N == 0) == (n.Text == "&&") {
			return v
		}
		return p.expr(n.Kids[1])
	}
	l := p.kids(n.Kids)
	v, fate := reckon(n.Text, l[0], l[1])
	p.want(fate)
	return v
}

func (p *player) call(n api.Node) api.Value {
	l := p.kids(n.Kids)
	p.w.line = n.Line
	switch n.Text {
	case "len", "cap":
		length, room, fate := p.w.size(l[0].H)
		p.want(fate)
		if n.Text == "len" {
			return api.Value{N: int64(length)}
		}
		return api.Value{N: int64(room)}
	case "close":
		p.want(p.w.close(l[0].H))
		return api.Value{}
	case "yield":
		p.halt(yielded)
		return api.Value{}
	case "println":
		p.want(p.w.print(itemsOf(n), l))
		return api.Value{}
	}
	if len(p.frames) == p.w.limits.Depth {
		p.want(api.FatalDepth)
	}
	p.frames = append(p.frames, p.scene(n.Slot, l))
	return p.function(n.Slot)
}

func itemsOf(n api.Node) []api.Item {
	var l []api.Item
	for _, kid := range n.Kids {
		switch {
		case kid.Kind == api.NodeText:
			l = append(l, api.Item{Kind: api.ItemText, Text: kid.Text})
		case kid.Type == "int":
			l = append(l, api.Item{Kind: api.ItemInt})
		case kid.Type == "bool":
			l = append(l, api.Item{Kind: api.ItemBool})
		}
	}
	return l
}

func (p *player) object(n api.Node) api.Value {
	size := int64(0)
	for _, v := range p.kids(n.Kids) {
		size = v.N
	}
	kind := api.KindChan
	switch n.Type {
	case "Mutex":
		kind = api.KindMutex
	case "WaitGroup":
		kind = api.KindGroup
	}
	v, fate := p.w.object(kind, size)
	p.want(fate)
	return v
}

func (p *player) method(n api.Node) api.Value {
	l := p.kids(n.Kids)
	p.w.line = n.Line
	switch n.Text {
	case "Lock":
		p.want(p.w.lock(l[0].H))
	case "Unlock":
		p.want(p.w.unlock(l[0].H))
	case "Wait":
		p.want(p.w.join(l[0].H))
	case "Add":
		p.want(p.w.count(l[0].H, l[1].N))
	case "Done":
		p.want(p.w.count(l[0].H, -1))
	}
	return api.Value{}
}

// list does statements, till one of them leads away.
func (p *player) list(l []api.Node) signal {
	for _, n := range l {
		if end := p.statement(n); end != on {
			return end
		}
	}
	return on
}

func (p *player) statement(n api.Node) signal {
	switch n.Kind {
	case api.NodeBlock:
		return p.scope(func() signal { return p.list(n.Kids) })
	case api.NodeIf:
		if p.expr(n.Kids[0]).N != 0 {
			return p.statement(n.Kids[1])
		}
		return p.list(n.Kids[2:])
	case api.NodeFor:
		return p.scope(func() signal { return p.loop(n) })
	case api.NodeSwitch:
		return p.switching(n)
	case api.NodeSelect:
		return p.selecting(n)
	case api.NodeReturn:
		for _, v := range p.kids(n.Kids) {
			p.value = v
		}
		return returns
	case api.NodeBreak:
		return breaks
	case api.NodeContinue:
		return continues
	}
	p.simple(n)
	return on
}

func (p *player) simple(n api.Node) {
	switch n.Kind {
	case api.NodeVar:
		var v api.Value
		for _, x := range p.kids(n.Kids) {
			v = x
		}
		p.put(n, v, true)
	case api.NodeDefine, api.NodeAssign:
		declares := n.Kind == api.NodeDefine
		if n.N == 1 {
			p.put(n.Kids[0], p.expr(n.Kids[1]), declares)
			return
		}
		v, ok := p.receive(n.Kids[2], n.Kids[2].Line)
		p.put(n.Kids[0], v, declares)
		p.put(n.Kids[1], truth(ok), declares)
	case api.NodeStep:
		p.top().vars[n.Kids[0].Slot].N += n.N
	case api.NodeSend:
		l := p.kids(n.Kids)
		p.w.line = n.Line
		p.want(p.w.send(l[0].H, l[1]))
	case api.NodeDo:
		p.expr(n.Kids[0])
	case api.NodeGo:
		call := n.Kids[0]
		if !p.w.start(call.Text, call.Slot, p.kids(call.Kids)) {
			p.want(api.FatalGos)
		}
	}
}

func (p *player) loop(n api.Node) signal {
	block := n.Kids[len(n.Kids)-1]
	if n.N == 3 {
		return p.ranging(n, block)
	}
	var cond, next api.Node
	switch n.N {
	case 1:
		cond = n.Kids[0]
	case 2:
		p.statement(n.Kids[0])
		cond, next = n.Kids[1], n.Kids[2]
	}
	for {
		p.beat()
		if cond.Kind != api.NodeNone && p.expr(cond).N == 0 {
			return on
		}
		if end := p.statement(block); end == breaks {
			return on
		} else if end == returns {
			return returns
		}
		p.statement(next)
	}
}

func (p *player) ranging(n, block api.Node) signal {
	channel := p.expr(n.Kids[1])
	p.hold(channel)
	if n.Text == ":=" {
		p.declare(n.Kids[0].Slot)
	}
	for {
		p.beat()
		v, ok := p.take(channel, n.Line)
		if !ok {
			p.letGo(1)
			return on
		}
		if n.Text != "" {
			p.put(n.Kids[0], v, false)
		}
		if end := p.statement(block); end == breaks {
			p.letGo(1)
			return on
		} else if end == returns {
			return returns
		}
	}
}

func (p *player) switching(n api.Node) signal {
	cases, held := n.Kids, truth(true)
	if n.N == 1 {
		held = p.expr(n.Kids[0])
		p.hold(held)
		cases = cases[1:]
	}
	chosen := p.choose(cases, held)
	if n.N == 1 {
		p.letGo(1)
	}
	if chosen == nil {
		return on
	}
	return ofClause(p.scope(func() signal { return p.list(chosen.Kids[len(chosen.Kids)-1].Kids) }))
}

// ofClause is how a Switch or a Select ends, of which a clause ends so.
func ofClause(end signal) signal {
	if end == breaks {
		return on
	}
	return end
}

func (p *player) choose(cases []api.Node, held api.Value) *api.Node {
	var other *api.Node
	for i, c := range cases {
		if c.N == 1 {
			other = &cases[i]
			continue
		}
		for _, e := range c.Kids[:len(c.Kids)-1] {
			if p.expr(e) == held {
				return &cases[i]
			}
		}
	}
	return other
}

func (p *player) selecting(n api.Node) signal {
	var arms []api.Arm
	var from []api.Node
	var other *api.Node
	for i, a := range n.Kids {
		if a.N == 1 {
			other = &n.Kids[i]
			continue
		}
		arms = append(arms, p.offer(a.Kids[0]))
		from = append(from, a)
	}
	for _, a := range arms {
		p.letGo(1)
		if a.Send {
			p.letGo(1)
		}
	}
	p.w.line = n.Line
	got, fate := p.w.choice(arms, other != nil)
	if back := p.want(fate); back != nil {
		got = *back
	}
	return ofClause(p.scope(func() signal {
		if got.Arm == len(arms) {
			return p.list(other.Kids[0].Kids)
		}
		arm := from[got.Arm]
		p.deliver(arm.Kids[0], got)
		return p.list(arm.Kids[1].Kids)
	}))
}

// offer reckons what an arm's statement is about, and holds it.
func (p *player) offer(s api.Node) api.Arm {
	if s.Kind == api.NodeSend {
		c := p.expr(s.Kids[0])
		p.hold(c)
		v := p.expr(s.Kids[1])
		p.hold(v)
		return api.Arm{Chan: c.H, Send: true, V: v}
	}
	receive := s.Kids[len(s.Kids)-1]
	c := p.expr(receive.Kids[0])
	p.hold(c)
	return api.Arm{Chan: c.H}
}

// deliver puts what a select got into its arm's targets.
func (p *player) deliver(s api.Node, got api.Got) {
	if s.Kind != api.NodeDefine && s.Kind != api.NodeAssign {
		return
	}
	declares := s.Kind == api.NodeDefine
	p.put(s.Kids[0], got.V, declares)
	if s.N == 2 {
		p.put(s.Kids[1], truth(got.OK), declares)
	}
}
