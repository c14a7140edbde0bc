package chans

import (
	"fmt"
	"math/rand"
	"slices"
	"testing"

	"drowse/api"
)

// model is channels and waits as the chapter says it: by lists that are gone through.
type model struct {
	channels []modelChannel
	waits    []entry
}

// modelChannel is a channel.
type modelChannel struct {
	h      api.Handle
	room   int
	values []api.Value
	closed bool
}

// find is where a channel is, or -1.
func (m *model) find(h api.Handle) int {
	return slices.IndexFunc(m.channels, func(c modelChannel) bool { return c.h == h })
}

// those are the waits of a row.
func (m *model) those(h api.Handle, side api.Side) (list []entry) {
	for _, w := range m.waits {
		if w.row == row(h, side) {
			list = append(list, w)
		}
	}
	return list
}

// busy tells whether g has a wait.
func (m *model) busy(g api.Handle) bool {
	return slices.ContainsFunc(m.waits, func(w entry) bool { return w.who == g })
}

// leave ends all waits of g.
func (m *model) leave(g api.Handle) {
	m.waits = slices.DeleteFunc(m.waits, func(w entry) bool { return w.who == g })
}

// make, drop, send, recv and close are what the chapter says of these calls.
func (m *model) make(h api.Handle, size int) api.Errno {
	if h == none || size < 0 || size > 100 {
		return api.ErrArg
	}
	if m.find(h) >= 0 {
		return api.ErrChansThere
	}
	m.channels = append(m.channels, modelChannel{h: h, room: size})
	return api.OK
}

func (m *model) drop(h api.Handle) api.Errno {
	i := m.find(h)
	if i < 0 {
		return api.ErrChansHandle
	}
	if len(m.those(h, api.SideSend))+len(m.those(h, api.SideRecv)) > 0 {
		return api.ErrChansWaits
	}
	m.channels = slices.Delete(m.channels, i, i+1)
	return api.OK
}

// asked is what is wrong with who asks, or with where.
func (m *model) asked(g, h api.Handle) api.Errno {
	if g == none {
		return api.ErrArg
	}
	if m.busy(g) {
		return api.ErrChansWaits
	}
	if h != none && m.find(h) < 0 {
		return api.ErrChansHandle
	}
	return api.OK
}

func (m *model) send(g, h api.Handle, v api.Value) (api.Did, api.Errno) {
	if err := m.asked(g, h); err != api.OK {
		return api.Did{}, err
	}
	if h != none {
		c := &m.channels[m.find(h)]
		if c.closed {
			return fatal(api.FatalSendClosed), api.OK
		}
		if l := m.those(h, api.SideRecv); len(l) > 0 {
			m.leave(l[0].who)
			return woke(gets(l[0].who, l[0].arm, v)), api.OK
		}
		if len(c.values) < c.room {
			c.values = append(c.values, v)
			return api.Did{}, api.OK
		}
	}
	m.waits = append(m.waits, entry{row: row(h, api.SideSend), who: g, v: v})
	return parked(), api.OK
}

func (m *model) recv(g, h api.Handle) (api.Did, api.Errno) {
	if err := m.asked(g, h); err != api.OK {
		return api.Did{}, err
	}
	if h != none {
		c := &m.channels[m.find(h)]
		senders := m.those(h, api.SideSend)
		var woken []api.Wake
		if len(senders) > 0 {
			// What the ring has and what the senders have is one row of values.
			m.leave(senders[0].who)
			c.values = append(c.values, senders[0].v)
			woken = append(woken, sent(senders[0].who, senders[0].arm))
		}
		if len(c.values) > 0 {
			v := c.values[0]
			c.values = c.values[1:]
			return got(v, woken...), api.OK
		}
		if c.closed {
			return api.Did{}, api.OK
		}
	}
	m.waits = append(m.waits, entry{row: row(h, api.SideRecv), who: g})
	return parked(), api.OK
}

func (m *model) close(h api.Handle) (api.Did, api.Errno) {
	if h == none {
		return fatal(api.FatalCloseNil), api.OK
	}
	i := m.find(h)
	if i < 0 {
		return api.Did{}, api.ErrChansHandle
	}
	if m.channels[i].closed {
		return fatal(api.FatalCloseClosed), api.OK
	}
	m.channels[i].closed = true
	var woken []api.Wake
	for len(m.those(h, api.SideRecv)) > 0 {
		w := m.those(h, api.SideRecv)[0]
		m.leave(w.who)
		woken = append(woken, ends(w.who, w.arm))
	}
	for len(m.those(h, api.SideSend)) > 0 {
		w := m.those(h, api.SideSend)[0]
		m.leave(w.who)
		woken = append(woken, dies(w.who, w.arm))
	}
	return woke(woken...), api.OK
}

// refs is the references of a channel.
func (m *model) refs(c modelChannel) (list []api.Handle) {
	values := slices.Clone(c.values)
	for _, w := range m.those(c.h, api.SideSend) {
		values = append(values, w.v)
	}
	for _, v := range values {
		if v.H != none {
			list = append(list, v.H)
		}
	}
	return list
}

// compare looks at all that is told, of a few handles that are channels and of some that are none.
func (m *model) compare(r *rig) {
	r.t.Helper()
	if got := r.entries(); !slices.Equal(got, m.waits) {
		r.t.Fatalf("waits: %v, want %v", got, m.waits)
	}
	if r.c.Count() != len(m.channels) {
		r.t.Fatalf("Count: %d, want %d", r.c.Count(), len(m.channels))
	}
	for _, h := range handles {
		i := m.find(h)
		if r.c.Has(h) != (i >= 0) {
			r.t.Fatalf("Has(%v): %v", h, r.c.Has(h))
		}
		if i < 0 {
			m.compareNone(r, h)
			continue
		}
		c := m.channels[i]
		canSend := c.closed || len(m.those(h, api.SideRecv)) > 0 || len(c.values) < c.room
		canRecv := c.closed || len(m.those(h, api.SideSend)) > 0 || len(c.values) > 0
		r.tells(h, canSend, canRecv, len(c.values), c.room, m.refs(c)...)
	}
}

// compareNone looks at what is told of no channel.
func (m *model) compareNone(r *rig, h api.Handle) {
	r.t.Helper()
	want := api.ErrChansHandle
	if h == none {
		want = api.OK
	}
	l, e := r.c.Len(h)
	c, f := r.c.Cap(h)
	if l != 0 || c != 0 || e != want || f != want || r.c.CanSend(h) || r.c.CanRecv(h) || len(r.c.Refs(h)) != 0 {
		r.t.Fatalf("of %v: %d, %v, %d, %v", h, l, e, c, f)
	}
}

// handles are those that the models' tests speak of.
var handles = []api.Handle{none, hd(1, 1), hd(1, 2), hd(2, 1), hd(3, 1)}

// anyValue is a number or a reference.
func anyValue(c *rand.Rand) api.Value {
	if c.Intn(2) == 0 {
		return num(c.Int63() - c.Int63())
	}
	return ref(handles[c.Intn(len(handles))])
}

// anyWho is one of a few goroutines; seldom none.
func anyWho(c *rand.Rand, many int) api.Handle {
	if c.Intn(20) == 0 {
		return none
	}
	return hd(uint32(c.Intn(many)+1), uint32(c.Intn(2)+1))
}

// step does one call by chance on both.
func (m *model) step(r *rig, c *rand.Rand, many int) {
	r.t.Helper()
	h, g, v := handles[c.Intn(len(handles))], anyWho(c, many), anyValue(c)
	switch k := c.Intn(30); {
	case k < 2:
		size := c.Intn(4)
		if c.Intn(4) == 0 {
			size = []int{-1, 100, 101}[c.Intn(3)]
		}
		want := m.make(h, size)
		r.result("Make", api.Did{}, r.c.Make(h, size), api.Did{}, want)
	case k < 3:
		want := m.drop(h)
		r.result("Drop", api.Did{}, r.c.Drop(h), api.Did{}, want)
	case k < 13:
		want, code := m.send(g, h, v)
		d, err := r.c.Send(g, h, v)
		r.result("Send", d, err, want, code)
	case k < 23:
		want, code := m.recv(g, h)
		d, err := r.c.Recv(g, h)
		r.result("Recv", d, err, want, code)
	case k < 24:
		want, code := m.close(h)
		d, err := r.c.Close(h)
		r.result("Close", d, err, want, code)
	default:
		m.others(r, c, g, h, v)
	}
}

// others lets somebody wait with several arms, or leave, as those do who know the book.
func (m *model) others(r *rig, c *rand.Rand, g, h api.Handle, v api.Value) {
	r.t.Helper()
	if g == none {
		return
	}
	if m.busy(g) {
		if c.Intn(2) == 0 {
			m.leave(g)
			r.b.Leave(g)
		}
		return
	}
	for arm := range c.Intn(4) + 1 {
		w := entry{row: row(h, api.Side(c.Intn(4)+1)), who: g, arm: arm * 3, v: v}
		m.waits = append(m.waits, w)
		r.put(w.row, w.who, w.arm, w.v)
		h = handles[c.Intn(len(handles))]
	}
}

// result compares what came of a call.
func (r *rig) result(what string, d api.Did, err api.Errno, want api.Did, code api.Errno) {
	r.t.Helper()
	if err != code || !sameDid(d, want) {
		r.t.Fatalf("%s: %v, %v; want %v, %v", what, d, err, want, code)
	}
}

// P14.1 to P14.5: calls in orders by chance, over several channels with one book, by few who ask and by many.
func TestByChance(t *testing.T) {
	for seed := range int64(200) {
		c := rand.New(rand.NewSource(seed))
		r, m := made(t), &model{}
		many := c.Intn(9) + 1
		for range 200 {
			m.step(r, c, many)
			m.compare(r)
		}
	}
}

// P14.2 to P14.4: all rows of six calls by two who send or receive and one who closes, at channels of each small size.
func TestAllShort(t *testing.T) {
	const calls, long = 5, 6
	rows := 1
	for range long {
		rows *= calls
	}
	for size := range 3 {
		for n := range rows {
			r, m := made(t), &model{}
			m.make(hd(1, 1), size)
			r.c.Make(hd(1, 1), size)
			for i := range long {
				m.call(r, n%calls, num(int64(i)))
				n /= calls
			}
			if got := r.entries(); !slices.Equal(got, m.waits) {
				t.Fatalf("waits: %v, want %v", got, m.waits)
			}
		}
	}
}

// call does one of five calls on both.
func (m *model) call(r *rig, which int, v api.Value) {
	r.t.Helper()
	x := hd(1, 1)
	switch which {
	case 0, 1:
		want, code := m.send(who(5+which), x, v)
		d, err := r.c.Send(who(5+which), x, v)
		r.result(fmt.Sprint("Send by ", 5+which), d, err, want, code)
	case 2, 3:
		want, code := m.recv(who(3+which), x)
		d, err := r.c.Recv(who(3+which), x)
		r.result(fmt.Sprint("Recv by ", 3+which), d, err, want, code)
	default:
		want, code := m.close(x)
		d, err := r.c.Close(x)
		r.result("Close", d, err, want, code)
	}
}
