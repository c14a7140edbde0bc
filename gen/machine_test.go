package gen_test

import (
	"strconv"

	"drowse/api"
)

// machine is a goroutine that does instructions, by chapter 19's V3.
type machine struct {
	w      *world
	p      *api.Program
	frames []*frame
}

type frame struct {
	of    *api.Func
	at    int
	vars  []api.Value
	stack []api.Value
}

// machineOf is a world in which a program is run.
func machineOf(p api.Program, l api.Limits, lots []api.Lot) *world {
	w := &world{limits: l, lots: lots, objects: map[api.Handle]*object{}, gens: map[uint32]uint32{}}
	w.begin = func(w *world, g *goer, number int, params []api.Value) actor {
		m := &machine{w: w, p: &p}
		m.enter(number, params)
		return m
	}
	w.start(p.Funcs[p.Main].Name, p.Main, nil)
	return w
}

func (m *machine) enter(number int, params []api.Value) {
	f := &m.p.Funcs[number]
	vars := make([]api.Value, f.Slots)
	copy(vars, params)
	m.frames = append(m.frames, &frame{of: f, vars: vars})
}

func (m *machine) leave() {}

func (m *machine) roots() []api.Value {
	var l []api.Value
	for _, f := range m.frames {
		l = append(append(l, f.vars...), f.stack...)
	}
	return l
}

func (m *machine) goOn(got *api.Got) event {
	if got != nil {
		m.back(*got)
	}
	for {
		f := m.top()
		i := f.of.Code[f.at]
		m.w.line = i.Line
		f.at++
		fate, e := m.do(i, f)
		switch {
		case e != paused:
			return e
		case i.Op == api.OpBeat && fate == api.Parked:
			f.at--
			return paused
		case fate == api.Parked:
			return parked
		case fate != api.Done:
			m.w.die(fate)
			return died
		}
	}
}

func (m *machine) top() *frame { return m.frames[len(m.frames)-1] }

// back pushes what a goroutine comes back with.
func (m *machine) back(got api.Got) {
	f := m.top()
	switch f.of.Code[f.at-1].Op {
	case api.OpRecv:
		f.push(got.V)
	case api.OpRecv2:
		f.push(got.V, truth(got.OK))
	case api.OpSelect:
		f.push(got.V, truth(got.OK), api.Value{N: int64(got.Arm)})
	}
}

func (f *frame) push(l ...api.Value) { f.stack = append(f.stack, l...) }

// pop takes some values off the stack, in the order in which they were put there.
func (f *frame) pop(count int) []api.Value {
	at := len(f.stack) - count
	l := append([]api.Value(nil), f.stack[at:]...)
	f.stack = f.stack[:at]
	return l
}

func signOf(op api.Op) (string, bool) {
	l := [api.OpPrint + 1]string{api.OpAdd: "+", api.OpSub: "-", api.OpMul: "*", api.OpDiv: "/", api.OpRem: "%", api.OpEq: "==", api.OpNe: "!=", api.OpLt: "<", api.OpLe: "<=", api.OpGt: ">", api.OpGe: ">="}
	return l[op], l[op] != ""
}

// do is an instruction; the event is other than paused where it ends what goes on.
func (m *machine) do(i api.Ins, f *frame) (api.Fate, event) {
	if s, ok := signOf(i.Op); ok {
		l := f.pop(2)
		v, fate := reckon(s, l[0], l[1])
		f.push(v)
		return fate, paused
	}
	switch i.Op {
	case api.OpCall, api.OpGo, api.OpRet, api.OpRetValue, api.OpYield:
		return m.control(i, f)
	case api.OpMutex, api.OpGroup, api.OpChan, api.OpSend, api.OpRecv, api.OpRecv2, api.OpClose, api.OpLen, api.OpCap, api.OpLock, api.OpUnlock, api.OpCount, api.OpWait, api.OpSelect:
		return m.operate(i, f), paused
	case api.OpPrint:
		items, count := m.p.Prints[i.A], 0
		for _, item := range items {
			if item.Kind != api.ItemText {
				count++
			}
		}
		return m.w.print(items, f.pop(count)), paused
	}
	return m.simple(i, f), paused
}

func (m *machine) simple(i api.Ins, f *frame) api.Fate {
	switch i.Op {
	case api.OpBeat:
		if !m.w.beat() {
			return api.Parked
		}
	case api.OpInt:
		f.push(api.Value{N: i.A})
	case api.OpNil:
		f.push(api.Value{})
	case api.OpLoad:
		f.push(f.vars[i.A])
	case api.OpStore:
		f.vars[i.A] = f.pop(1)[0]
	case api.OpClear:
		f.vars[i.A] = api.Value{}
	case api.OpPop:
		f.pop(1)
	case api.OpNeg:
		f.push(api.Value{N: -f.pop(1)[0].N})
	case api.OpNot:
		f.push(truth(f.pop(1)[0].N == 0))
	case api.OpJump:
		f.at = int(i.A)
	case api.OpIf, api.OpUnless:
		if (f.pop(1)[0].N != 0) == (i.Op == api.OpIf) {
			f.at = int(i.A)
		}
	default:
		panic("no instruction: " + strconv.Itoa(int(i.Op)))
	}
	return api.Done
}

func (m *machine) control(i api.Ins, f *frame) (api.Fate, event) {
	switch i.Op {
	case api.OpYield:
		return api.Done, yielded
	case api.OpCall:
		if len(m.frames) == m.w.limits.Depth {
			return api.FatalDepth, paused
		}
		m.enter(int(i.A), f.pop(m.p.Funcs[i.A].Params))
	case api.OpGo:
		if !m.w.start(m.p.Funcs[i.A].Name, int(i.A), f.pop(m.p.Funcs[i.A].Params)) {
			return api.FatalGos, paused
		}
	case api.OpRet, api.OpRetValue:
		m.frames = m.frames[:len(m.frames)-1]
		if len(m.frames) == 0 {
			return api.Done, finished
		}
		if i.Op == api.OpRetValue {
			m.top().push(f.pop(1)...)
		}
	}
	return api.Done, paused
}

func (m *machine) operate(i api.Ins, f *frame) api.Fate {
	w := m.w
	switch i.Op {
	case api.OpMutex:
		return m.object(f, api.KindMutex, 0)
	case api.OpGroup:
		return m.object(f, api.KindGroup, 0)
	case api.OpChan:
		return m.object(f, api.KindChan, f.pop(1)[0].N)
	case api.OpSend:
		l := f.pop(2)
		return w.send(l[0].H, l[1])
	case api.OpRecv, api.OpRecv2:
		v, ok, fate := w.recv(f.pop(1)[0].H)
		if fate == api.Done {
			f.push(v)
		}
		if fate == api.Done && i.Op == api.OpRecv2 {
			f.push(truth(ok))
		}
		return fate
	case api.OpClose:
		return w.close(f.pop(1)[0].H)
	case api.OpLen, api.OpCap:
		length, room, fate := w.size(f.pop(1)[0].H)
		if i.Op == api.OpCap {
			length = room
		}
		f.push(api.Value{N: int64(length)})
		return fate
	case api.OpLock:
		return w.lock(f.pop(1)[0].H)
	case api.OpUnlock:
		return w.unlock(f.pop(1)[0].H)
	case api.OpWait:
		return w.join(f.pop(1)[0].H)
	case api.OpCount:
		l := f.pop(2)
		return w.count(l[0].H, l[1].N)
	}
	return m.choice(i, f)
}

func (m *machine) object(f *frame, kind api.Kind, size int64) api.Fate {
	v, fate := m.w.object(kind, size)
	if fate == api.Done {
		f.push(v)
	}
	return fate
}

func (m *machine) choice(i api.Ins, f *frame) api.Fate {
	var arms []api.Arm
	sends := m.p.Arms[i.A]
	for at := len(sends) - 1; at >= 0; at-- {
		a := api.Arm{Send: sends[at]}
		if a.Send {
			a.V = f.pop(1)[0]
		}
		a.Chan = f.pop(1)[0].H
		arms = append([]api.Arm{a}, arms...)
	}
	got, fate := m.w.choice(arms, i.B == 1)
	if fate == api.Done {
		f.push(got.V, truth(got.OK), api.Value{N: int64(got.Arm)})
	}
	return fate
}
