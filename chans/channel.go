package chans

import (
	"drowse/api"
	"drowse/ring"
)

// channel is a place with what was sent there and not yet received.
type channel struct {
	place
	holds  *ring.Ring[api.Value]
	closed bool
}

// send gives v to who waits for it, or to the ring, or lets g wait.
func (ch *channel) send(g api.Handle, v api.Value) api.Did {
	if ch.closed {
		return api.Did{Fate: api.FatalSendClosed}
	}
	if r, waits := ch.first(api.SideRecv); waits {
		return api.Did{Woken: []api.Wake{ch.wake(r, api.Got{V: v, OK: true})}}
	}
	if ch.holds.Put(v) == api.OK {
		return api.Did{}
	}
	return ch.park(api.SideSend, g, v)
}

// recv takes what was sent first, or lets g wait.
func (ch *channel) recv(g api.Handle) api.Did {
	if v, err := ch.holds.Take(); err == api.OK {
		return api.Did{V: v, OK: true, Woken: ch.refill()}
	}
	if r, waits := ch.first(api.SideSend); waits {
		return api.Did{V: r.V, OK: true, Woken: []api.Wake{ch.wake(r, api.Got{})}}
	}
	if ch.closed {
		return api.Did{}
	}
	return ch.park(api.SideRecv, g, api.Value{})
}

// refill lets the first sender, if there is one, have the room that a receive has just made: whom that wakes.
func (ch *channel) refill() []api.Wake {
	r, waits := ch.first(api.SideSend)
	if !waits {
		return nil
	}
	ch.holds.Put(r.V)
	return []api.Wake{ch.wake(r, api.Got{})}
}

// close lets nobody wait there any more.
func (ch *channel) close() api.Did {
	if ch.closed {
		return api.Did{Fate: api.FatalCloseClosed}
	}
	ch.closed = true
	woken := ch.wakeAll(api.SideRecv, api.Got{})
	return api.Did{Woken: append(woken, ch.wakeAll(api.SideSend, api.Got{Fate: api.FatalSendClosed})...)}
}

// refs is the handles of the values that are still to be received, as they will be.
func (ch *channel) refs() []api.Handle {
	var list []api.Handle
	add := func(v api.Value) {
		if !isNone(v.H) {
			list = append(list, v.H)
		}
	}
	for v := range ch.holds.All() {
		add(v)
	}
	for _, r := range ch.all(api.SideSend) {
		add(r.V)
	}
	return list
}
