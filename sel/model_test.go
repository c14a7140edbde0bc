package sel

import (
	"fmt"
	"math/rand"
	"slices"
	"testing"

	"drowse/api"
)

// model is channels, waits and selects as the chapters say it: by lists that are gone through.
type model struct {
	channels []modelChannel
	waits    []entry
}

// modelChannel is a channel.
type modelChannel struct {
	h      api.Handle
	room   int
	values []api.Value
	closed bool
}

// find is a channel, or nil.
func (m *model) find(h api.Handle) *modelChannel {
	for i := range m.channels {
		if m.channels[i].h == h {
			return &m.channels[i]
		}
	}
	return nil
}

// those are the waits of a row.
func (m *model) those(h api.Handle, side api.Side) (all []entry) {
	for _, w := range m.waits {
		if w.row == row(h, side) {
			all = append(all, w)
		}
	}
	return all
}

// busy tells whether g has a wait, leave ends all that it has.
func (m *model) busy(g api.Handle) bool {
	return slices.ContainsFunc(m.waits, func(w entry) bool { return w.who == g })
}

func (m *model) leave(g api.Handle) {
	m.waits = slices.DeleteFunc(m.waits, func(w entry) bool { return w.who == g })
}

// at is what a send of v or a receive at a channel, or at none, comes to if it is done at once: otherwise it tells false and has done nothing.
func (m *model) at(sends bool, h api.Handle, v api.Value) (api.Did, bool) {
	c := m.find(h)
	if c == nil {
		return api.Did{}, false
	}
	senders, receivers := m.those(h, api.SideSend), m.those(h, api.SideRecv)
	if sends {
		switch {
		case c.closed:
			return fatal(api.FatalSendClosed), true
		case len(receivers) > 0:
			m.leave(receivers[0].who)
			return woke(gets(receivers[0].who, receivers[0].arm, v)), true
		case len(c.values) < c.room:
			c.values = append(c.values, v)
			return api.Did{}, true
		}
		return api.Did{}, false
	}
	var woken []api.Wake
	if len(senders) > 0 {
		// What the ring has and what the senders have is one row of values.
		m.leave(senders[0].who)
		c.values = append(c.values, senders[0].v)
		woken = append(woken, sent(senders[0].who, senders[0].arm))
	}
	if len(c.values) > 0 {
		v := c.values[0]
		c.values = c.values[1:]
		return got(v, woken...), true
	}
	return api.Did{}, c.closed
}

// ask is a send or a receive alone.
func (m *model) ask(g api.Handle, arm api.Arm) (api.Did, api.Errno) {
	if g == none {
		return api.Did{}, api.ErrArg
	}
	if m.busy(g) {
		return api.Did{}, api.ErrChansWaits
	}
	if arm.Chan != none && m.find(arm.Chan) == nil {
		return api.Did{}, api.ErrChansHandle
	}
	if d, done := m.at(arm.Send, arm.Chan, arm.V); done {
		return d, api.OK
	}
	m.wait(g, arm, 0)
	return parked(), api.OK
}

// wait lets g wait for an arm.
func (m *model) wait(g api.Handle, arm api.Arm, i int) {
	w := entry{row: row(arm.Chan, api.SideRecv), who: g, arm: i}
	if arm.Send {
		w.row.Side, w.v = api.SideSend, arm.V
	}
	m.waits = append(m.waits, w)
}

// close closes a channel.
func (m *model) close(h api.Handle) (api.Did, api.Errno) {
	c := m.find(h)
	switch {
	case h == none:
		return fatal(api.FatalCloseNil), api.OK
	case c == nil:
		return api.Did{}, api.ErrChansHandle
	case c.closed:
		return fatal(api.FatalCloseClosed), api.OK
	}
	c.closed = true
	var woken []api.Wake
	for len(m.those(h, api.SideRecv)) > 0 {
		w := m.those(h, api.SideRecv)[0]
		m.leave(w.who)
		woken = append(woken, ends(w.who, w.arm))
	}
	for len(m.those(h, api.SideSend)) > 0 {
		w := m.those(h, api.SideSend)[0]
		m.leave(w.who)
		woken = append(woken, dies(w.who, w.arm))
	}
	return woke(woken...), api.OK
}

// poll is which arms would be done at once: each is tried on a model of its own.
func (m *model) poll(arms []api.Arm) ([]int, api.Errno) {
	if len(arms) > 50 {
		return nil, api.ErrSelMany
	}
	var can []int
	for i, a := range arms {
		if a.Chan != none && m.find(a.Chan) == nil {
			return nil, api.ErrChansHandle
		}
		if _, done := m.copy().at(a.Send, a.Chan, a.V); done {
			can = append(can, i)
		}
	}
	return can, api.OK
}

// copy is another model with the same things.
func (m *model) copy() *model {
	o := &model{channels: slices.Clone(m.channels), waits: slices.Clone(m.waits)}
	for i := range o.channels {
		o.channels[i].values = slices.Clone(o.channels[i].values)
	}
	return o
}

// asked is the arms that are ready, or what is wrong with who asks.
func (m *model) asked(g api.Handle, arms []api.Arm) ([]int, api.Errno) {
	if g == none {
		return nil, api.ErrArg
	}
	if m.busy(g) {
		return nil, api.ErrChansWaits
	}
	return m.poll(arms)
}

// take takes an arm, park waits for all.
func (m *model) take(g api.Handle, arms []api.Arm, i int) (api.Did, api.Errno) {
	can, err := m.asked(g, arms)
	if err != api.OK {
		return api.Did{}, err
	}
	if !slices.Contains(can, i) {
		return api.Did{}, api.ErrSelArm
	}
	d, _ := m.at(arms[i].Send, arms[i].Chan, arms[i].V)
	return d, api.OK
}

func (m *model) park(g api.Handle, arms []api.Arm) api.Errno {
	can, err := m.asked(g, arms)
	if err != api.OK {
		return err
	}
	if len(can) > 0 {
		return api.ErrSelReady
	}
	for i, a := range arms {
		m.wait(g, a, i)
	}
	return api.OK
}

// both is a rig and a model of it.
type both struct {
	*rig
	m *model
}

// pair is both with channels from 1.1 on.
func pair(t *testing.T, sizes ...int) both {
	t.Helper()
	b := both{made(t, sizes...), &model{}}
	for n, size := range sizes {
		b.m.channels = append(b.m.channels, modelChannel{h: ch(n + 1), room: size})
	}
	return b
}

// result compares what came of a call.
func (b both) result(what string, d api.Did, err api.Errno, want api.Did, code api.Errno) {
	b.t.Helper()
	if err != code || !sameDid(d, want) {
		b.t.Fatalf("%s: %v, %v; want %v, %v", what, d, err, want, code)
	}
}

// bothPoll, bothTake, bothPark, bothAsk and bothClose do a call on both.
func (b both) bothPoll(arms []api.Arm) []int {
	b.t.Helper()
	want, code := b.m.poll(arms)
	can, err := b.s.Poll(arms)
	if err != code || !slices.Equal(can, want) {
		b.t.Fatalf("Poll(%v): %v, %v; want %v, %v", arms, can, err, want, code)
	}
	return can
}

func (b both) bothTake(g api.Handle, arms []api.Arm, i int) {
	b.t.Helper()
	want, code := b.m.take(g, arms, i)
	d, err := b.s.Take(g, arms, i)
	b.result(fmt.Sprintf("Take(%v, %v, %d)", g, arms, i), d, err, want, code)
}

func (b both) bothPark(g api.Handle, arms []api.Arm) {
	b.t.Helper()
	code := b.m.park(g, arms)
	b.result(fmt.Sprintf("Park(%v, %v)", g, arms), api.Did{}, b.s.Park(g, arms), api.Did{}, code)
}

func (b both) bothAsk(g api.Handle, arm api.Arm) {
	b.t.Helper()
	want, code := b.m.ask(g, arm)
	call := b.c.Recv
	if arm.Send {
		call = func(g, h api.Handle) (api.Did, api.Errno) { return b.c.Send(g, h, arm.V) }
	}
	d, err := call(g, arm.Chan)
	b.result(fmt.Sprintf("%v asks %v", g, arm), d, err, want, code)
}

func (b both) bothClose(h api.Handle) {
	b.t.Helper()
	want, code := b.m.close(h)
	d, err := b.c.Close(h)
	b.result(fmt.Sprintf("Close(%v)", h), d, err, want, code)
}

// compare looks at all waits, and at how many values each channel has.
func (b both) compare() {
	b.t.Helper()
	b.rig.waits(b.m.waits...)
	for _, c := range b.m.channels {
		if n, err := b.c.Len(c.h); n != len(c.values) || err != api.OK {
			b.t.Fatalf("Len(%v): %d, %v; want %d", c.h, n, err, len(c.values))
		}
	}
}

// anyArm is one by chance: seldom of none, more seldom of no channel.
func anyArm(c *rand.Rand, n int) api.Arm {
	a := api.Arm{Chan: ch(c.Intn(4) + 1), Send: c.Intn(2) == 0, V: num(int64(n))}
	switch k := c.Intn(100); {
	case k < 10:
		a.Chan = none
	case k < 12:
		a.Chan = hd(9, 9)
	}
	if c.Intn(3) == 0 {
		a.V = ref(ch(c.Intn(9) + 1))
	}
	return a
}

// anyArms are some by chance: mostly few.
func anyArms(c *rand.Rand, n int) []api.Arm {
	many := c.Intn(5)
	if c.Intn(30) == 0 {
		many = []int{49, 50, 51, 52}[c.Intn(4)]
	}
	var all []api.Arm
	for range many {
		all = append(all, anyArm(c, n))
	}
	return all
}

// anyStep does a call by chance.
func (b both) anyStep(c *rand.Rand, goroutines, n int) {
	b.t.Helper()
	g := hd(uint32(c.Intn(goroutines)+1), uint32(c.Intn(2)+1))
	if c.Intn(40) == 0 {
		g = none
	}
	arms := anyArms(c, n)
	switch k := c.Intn(60); {
	case k < 1:
		b.bothClose(anyArm(c, n).Chan)
	case k < 15:
		b.bothAsk(g, anyArm(c, n))
	case k < 35:
		b.bothTake(g, arms, c.Intn(len(arms)+2)-1)
	case k < 50:
		b.bothPark(g, arms)
	default:
		if can := b.bothPoll(arms); len(can) > 0 {
			b.bothTake(g, arms, can[c.Intn(len(can))])
		}
	}
}

// P15.1 to P15.4: calls in orders by chance, by few and by many.
func TestByChance(t *testing.T) {
	for seed := range int64(300) {
		c := rand.New(rand.NewSource(seed))
		b := pair(t, 0, 1, c.Intn(4), 0)
		goroutines := c.Intn(9) + 1
		for n := range 200 {
			b.anyStep(c, goroutines, n)
			b.compare()
		}
	}
}

// sel takes the first or the last arm that is ready, or waits for all.
func (b both) sel(g api.Handle, last bool, arms ...api.Arm) {
	b.t.Helper()
	can := b.bothPoll(arms)
	switch {
	case len(can) == 0:
		b.bothPark(g, arms)
	case last:
		b.bothTake(g, arms, can[len(can)-1])
	default:
		b.bothTake(g, arms, can[0])
	}
}

// call does one of eight calls.
func (b both) call(which, n int) {
	b.t.Helper()
	x, y, v, w := ch(1), ch(2), num(int64(n)), num(int64(-n))
	switch which {
	case 0:
		b.bothAsk(who(7), out(x, v))
	case 1:
		b.bothAsk(who(7), in(x))
	case 2:
		b.bothAsk(who(8), out(y, v))
	case 3:
		b.bothAsk(who(8), in(y))
	case 4:
		b.sel(who(5), false, in(x), out(y, v))
	case 5:
		b.sel(who(6), true, out(x, v), in(y))
	case 6:
		b.sel(who(5), true, in(x), out(x, v), in(none), out(x, w))
	default:
		b.bothClose(x)
	}
}

// P15.2 to P15.5: all rows of five calls by two who select and two who don't, over two channels of each small size.
func TestAllShort(t *testing.T) {
	const calls, long = 8, 5
	rows := 1
	for range long {
		rows *= calls
	}
	for _, sizes := range [][]int{{0, 0}, {1, 0}, {0, 1}, {2, 1}} {
		for n := range rows {
			b := pair(t, sizes...)
			for i := range long {
				b.call(n%calls, i+1)
				n /= calls
			}
			b.compare()
		}
	}
}
