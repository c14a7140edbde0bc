package gen_test

import (
	"maps"
	"slices"
	"strconv"

	"drowse/api"
	"drowse/figure"
)

// world is chapters 10 to 19 in small, but for what runs: goroutines, the ready list, choices, objects, waits, what was printed. A machine that does instructions and a model that does statements are both played in one.
type world struct {
	limits  api.Limits
	lots    []api.Lot
	begin   func(w *world, g *goer, function int, params []api.Value) actor
	all     []*goer // by rising serials
	ready   []*goer
	running *goer
	objects map[api.Handle]*object
	gens    map[uint32]uint32
	waits   []wait // the one that was put first ahead
	left    int    // beats
	line    int    // of what is being done
	out     api.Outcome
	reaches [][]api.Handle // what could be reached at each Make, full or not
}

// goer is a goroutine.
type goer struct {
	stat   api.Stat
	actor  actor
	parked bool
	on     api.Wait
	line   int
	got    *api.Got // what it comes back with, if it was parked when it ran last
}

// actor is what a goroutine does.
type actor interface {
	goOn(got *api.Got) event
	roots() []api.Value
	leave()
}

// event is why an actor does not go on.
type event int

const (
	paused event = iota
	parked
	yielded
	finished
	died
)

type wait struct {
	who *goer
	row api.Row
	arm int
	v   api.Value
}

type object struct {
	kind    api.Kind
	room    int
	ring    []api.Value
	closed  bool
	held    bool
	counter int64
}

func (w *world) start(function string, number int, params []api.Value) bool {
	living := 0
	for _, g := range w.all {
		if !g.stat.Finished {
			living++
		}
	}
	if living == w.limits.Gos {
		return false
	}
	g := &goer{stat: api.Stat{Serial: len(w.all) + 1, Func: function}}
	g.actor = w.begin(w, g, number, params)
	w.all = append(w.all, g)
	w.ready = append(w.ready, g)
	return true
}

// run goes on with so many beats.
func (w *world) run(beats int) {
	w.left, w.out.End = beats, api.EndBeats
	for {
		if w.running == nil && !w.dispatch() {
			return
		}
		g := w.running
		got := g.got
		g.got = nil
		switch g.actor.goOn(got) {
		case paused, died:
			return
		case yielded:
			w.ready = append(w.ready, g)
			w.running = nil
		case finished:
			g.stat.Finished = true
			w.running = nil
			if g.stat.Serial == 1 {
				w.out.End = api.EndMain
				return
			}
		}
	}
}

// dispatch tells whether somebody runs now.
func (w *world) dispatch() bool {
	if len(w.ready) == 0 {
		w.die(api.FatalAsleep)
		return false
	}
	at := w.choose(len(w.ready), false)
	g := w.ready[at]
	w.ready = slices.Delete(w.ready, at, at+1)
	for _, other := range w.ready {
		other.stat.Waits++
	}
	g.stat.Dispatches++
	w.out.Dispatches++
	w.running = g
	if g.got != nil && g.got.Fate != api.Done {
		w.die(g.got.Fate)
		return false
	}
	return true
}

func (w *world) die(f api.Fate) { w.out.End, w.out.Fate = api.EndFatal, f }

// choose is chapter 17's Next, put down as chapter 19 says.
func (w *world) choose(of int, arms bool) int {
	if of == 1 {
		return 0
	}
	var lot api.Lot
	if len(w.lots) > 0 {
		lot, w.lots = w.lots[0], w.lots[1:]
	}
	took := chooseOf(lot, of)
	if len(w.out.Choices) < api.MaxChoices {
		w.out.Choices = append(w.out.Choices, api.Choice{Select: arms, Of: of, Took: took})
	}
	return took
}

func chooseOf(lot api.Lot, of int) int {
	if len(lot.Weights) == 0 {
		if lot.Pick < 0 {
			return -(lot.Pick + 1) % of
		}
		return lot.Pick % of
	}
	best, most := -1, 0.0
	for i := range of {
		weight := 0.0
		if i < len(lot.Weights) {
			weight = lot.Weights[i]
		}
		if weight == weight && (best < 0 || figure.Order(weight, most) > 0) {
			best, most = i, weight
		}
	}
	return max(best, 0)
}

func (w *world) beat() bool {
	if w.left == 0 {
		return false
	}
	w.left--
	w.out.Beats++
	w.running.stat.Beats++
	return true
}

// park is who runs parked with these waits, which are its own.
func (w *world) park(on api.Wait, l ...wait) api.Fate {
	g := w.running
	g.parked, g.on, g.line = true, on, w.line
	g.stat.Parks++
	for _, x := range l {
		x.who = g
		w.waits = append(w.waits, x)
	}
	w.running = nil
	return api.Parked
}

// first is the first wait of a row.
func (w *world) first(of api.Handle, side api.Side) (wait, bool) {
	for _, x := range w.waits {
		if x.row == (api.Row{Of: of, Side: side}) {
			return x, true
		}
	}
	return wait{}, false
}

func (w *world) wake(x wait, got api.Got) {
	got.Arm = x.arm
	w.waits = slices.DeleteFunc(w.waits, func(y wait) bool { return y.who == x.who })
	x.who.parked, x.who.got = false, &got
	w.ready = append(w.ready, x.who)
}

func (w *world) is(h api.Handle, kind api.Kind) bool {
	o := w.objects[h]
	return h == (api.Handle{}) || o != nil && o.kind == kind
}

func (w *world) send(h api.Handle, v api.Value) api.Fate {
	if !w.is(h, api.KindChan) {
		return api.FatalKind
	}
	row := api.Row{Of: h, Side: api.SideSend}
	if h == (api.Handle{}) {
		return w.park(api.OnNilSend, wait{row: row, v: v})
	}
	o := w.objects[h]
	if o.closed {
		return api.FatalSendClosed
	}
	if x, ok := w.first(h, api.SideRecv); ok {
		w.wake(x, api.Got{V: v, OK: true})
		return api.Done
	}
	if len(o.ring) < o.room {
		o.ring = append(o.ring, v)
		return api.Done
	}
	return w.park(api.OnSend, wait{row: row, v: v})
}

func (w *world) recv(h api.Handle) (api.Value, bool, api.Fate) {
	if !w.is(h, api.KindChan) {
		return api.Value{}, false, api.FatalKind
	}
	row := api.Row{Of: h, Side: api.SideRecv}
	if h == (api.Handle{}) {
		return api.Value{}, false, w.park(api.OnNilRecv, wait{row: row})
	}
	o := w.objects[h]
	x, sends := w.first(h, api.SideSend)
	switch {
	case len(o.ring) > 0:
		v := o.ring[0]
		o.ring = o.ring[1:]
		if sends {
			o.ring = append(o.ring, x.v)
			w.wake(x, api.Got{})
		}
		return v, true, api.Done
	case sends:
		w.wake(x, api.Got{})
		return x.v, true, api.Done
	case o.closed:
		return api.Value{}, false, api.Done
	}
	return api.Value{}, false, w.park(api.OnRecv, wait{row: row})
}

func (w *world) close(h api.Handle) api.Fate {
	o := w.objects[h]
	switch {
	case h == (api.Handle{}):
		return api.FatalCloseNil
	case o == nil || o.kind != api.KindChan:
		return api.FatalKind
	case o.closed:
		return api.FatalCloseClosed
	}
	o.closed = true
	for x, ok := w.first(h, api.SideRecv); ok; x, ok = w.first(h, api.SideRecv) {
		w.wake(x, api.Got{})
	}
	for x, ok := w.first(h, api.SideSend); ok; x, ok = w.first(h, api.SideSend) {
		w.wake(x, api.Got{Fate: api.FatalSendClosed})
	}
	return api.Done
}

// size is a channel's length and room; of none 0.
func (w *world) size(h api.Handle) (int, int, api.Fate) {
	if !w.is(h, api.KindChan) {
		return 0, 0, api.FatalKind
	}
	if h == (api.Handle{}) {
		return 0, 0, api.Done
	}
	return len(w.objects[h].ring), w.objects[h].room, api.Done
}

func (w *world) lock(h api.Handle) api.Fate {
	if !w.is(h, api.KindMutex) {
		return api.FatalKind
	}
	o := w.objects[h]
	switch {
	case o == nil:
		return api.FatalNilMutex
	case o.held:
		return w.park(api.OnLock, wait{row: api.Row{Of: h, Side: api.SideLock}})
	}
	o.held = true
	return api.Done
}

func (w *world) unlock(h api.Handle) api.Fate {
	if !w.is(h, api.KindMutex) {
		return api.FatalKind
	}
	o := w.objects[h]
	switch {
	case o == nil:
		return api.FatalNilMutex
	case !o.held:
		return api.FatalUnlock
	}
	if x, ok := w.first(h, api.SideLock); ok {
		w.wake(x, api.Got{})
	} else {
		o.held = false
	}
	return api.Done
}

func (w *world) count(h api.Handle, n int64) api.Fate {
	if !w.is(h, api.KindGroup) {
		return api.FatalKind
	}
	o := w.objects[h]
	if o == nil {
		return api.FatalNilGroup
	}
	if n < -o.counter || n > api.MaxCount-o.counter {
		return api.FatalCounter
	}
	o.counter += n
	for o.counter == 0 {
		x, ok := w.first(h, api.SideJoin)
		if !ok {
			break
		}
		w.wake(x, api.Got{})
	}
	return api.Done
}

func (w *world) join(h api.Handle) api.Fate {
	if !w.is(h, api.KindGroup) {
		return api.FatalKind
	}
	o := w.objects[h]
	switch {
	case o == nil:
		return api.FatalNilGroup
	case o.counter == 0:
		return api.Done
	}
	return w.park(api.OnGroup, wait{row: api.Row{Of: h, Side: api.SideJoin}})
}

// poll is the arms that are ready.
func (w *world) poll(arms []api.Arm) ([]int, api.Fate) {
	var l []int
	for i, a := range arms {
		if !w.is(a.Chan, api.KindChan) {
			return nil, api.FatalKind
		}
		o := w.objects[a.Chan]
		if o == nil {
			continue
		}
		_, receivers := w.first(a.Chan, api.SideRecv)
		_, senders := w.first(a.Chan, api.SideSend)
		if a.Send && (o.closed || receivers || len(o.ring) < o.room) || !a.Send && (o.closed || senders || len(o.ring) > 0) {
			l = append(l, i)
		}
	}
	return l, api.Done
}

// choice is a select: what was got, whether an arm was taken, and its fate.
func (w *world) choice(arms []api.Arm, others bool) (api.Got, api.Fate) {
	ready, fate := w.poll(arms)
	if fate != api.Done {
		return api.Got{}, fate
	}
	switch {
	case len(ready) > 0:
		i := ready[w.choose(len(ready), true)]
		got := api.Got{Arm: i}
		if arms[i].Send {
			fate = w.send(arms[i].Chan, arms[i].V)
		} else {
			got.V, got.OK, fate = w.recv(arms[i].Chan)
		}
		return got, fate
	case others:
		return api.Got{Arm: len(arms)}, api.Done
	case len(arms) == 0:
		return api.Got{}, w.park(api.OnNoCases)
	}
	var l []wait
	for i, a := range arms {
		x := wait{row: api.Row{Of: a.Chan, Side: api.SideRecv}, arm: i}
		if a.Send {
			x.row.Side, x.v = api.SideSend, a.V
		}
		l = append(l, x)
	}
	return api.Got{}, w.park(api.OnSelect, l...)
}

// object is a new one, or a fate.
func (w *world) object(kind api.Kind, size int64) (api.Value, api.Fate) {
	if kind == api.KindChan && (size < 0 || size > api.MaxBuffer) {
		return api.Value{}, api.FatalSize
	}
	reach := w.reach()
	w.reaches = append(w.reaches, slices.SortedFunc(maps.Keys(reach), bySlot))
	if len(w.objects) == w.limits.Objects {
		maps.DeleteFunc(w.objects, func(h api.Handle, _ *object) bool { return !reach[h] })
	}
	if len(w.objects) == w.limits.Objects {
		return api.Value{}, api.FatalMemory
	}
	h := api.Handle{Slot: 1, Gen: w.gens[1]}
	for w.objects[h] != nil {
		h = api.Handle{Slot: h.Slot + 1, Gen: w.gens[h.Slot+1]}
	}
	h.Gen++
	w.gens[h.Slot] = h.Gen
	w.objects[h] = &object{kind: kind, room: int(size)}
	return api.Value{H: h}, api.Done
}

func bySlot(a, b api.Handle) int { return int(a.Slot) - int(b.Slot) }

// reach is all objects that can be come to.
func (w *world) reach() map[api.Handle]bool {
	reach := map[api.Handle]bool{}
	var come func(h api.Handle)
	come = func(h api.Handle) {
		o := w.objects[h]
		if o == nil || reach[h] {
			return
		}
		reach[h] = true
		for _, v := range o.ring {
			come(v.H)
		}
	}
	for _, g := range w.all {
		if g.stat.Finished {
			continue
		}
		for _, v := range g.actor.roots() {
			come(v.H)
		}
		if g.got != nil {
			come(g.got.V.H)
		}
	}
	for _, x := range w.waits {
		come(x.row.Of)
		come(x.v.H)
	}
	return reach
}

// print is the line of some items; values are those of the items that are no texts.
func (w *world) print(items []api.Item, values []api.Value) api.Fate {
	line := ""
	for i, item := range items {
		if i > 0 {
			line += " "
		}
		if item.Kind == api.ItemText {
			line += item.Text
			continue
		}
		if item.Kind == api.ItemInt {
			line += strconv.FormatInt(values[0].N, 10)
		} else {
			line += strconv.FormatBool(values[0].N != 0)
		}
		values = values[1:]
	}
	line += "\n"
	if len(w.out.Output)+len(line) > w.limits.Out {
		return api.FatalOutput
	}
	w.out.Output += line
	return api.Done
}

func truth(b bool) api.Value {
	if b {
		return api.Value{N: 1}
	}
	return api.Value{}
}

// reckon is a sign of two values.
func reckon(sign string, a, b api.Value) (api.Value, api.Fate) {
	x, y := a.N, b.N
	switch sign {
	case "+":
		return api.Value{N: x + y}, api.Done
	case "-":
		return api.Value{N: x - y}, api.Done
	case "*":
		return api.Value{N: x * y}, api.Done
	case "/", "%":
		if y == 0 {
			return api.Value{}, api.FatalDivide
		}
		if sign == "/" {
			return api.Value{N: x / y}, api.Done
		}
		return api.Value{N: x % y}, api.Done
	case "==":
		return truth(a == b), api.Done
	case "!=":
		return truth(a != b), api.Done
	case "<":
		return truth(x < y), api.Done
	case "<=":
		return truth(x <= y), api.Done
	case ">":
		return truth(x > y), api.Done
	case ">=":
		return truth(x >= y), api.Done
	}
	panic("no sign: " + sign)
}

// outcome is chapter 19's V4.
func (w *world) outcome() api.Outcome {
	o := w.out
	o.Choices = slices.Clone(o.Choices)
	for _, g := range w.all {
		o.Stats = append(o.Stats, g.stat)
		if g.parked {
			o.Blocked = append(o.Blocked, api.Blocked{Serial: g.stat.Serial, Line: g.line, Func: g.stat.Func, On: g.on})
		}
	}
	return o
}

// leave lets go of all that is still about to do something.
func (w *world) leave() {
	for _, g := range w.all {
		g.actor.leave()
	}
}
