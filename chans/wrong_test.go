package chans

import (
	"testing"

	"drowse/api"
)

// P14.2, P14.3: nobody neither sends nor receives, wherever, ahead of all else.
func TestAskedByNobody(t *testing.T) {
	r := with(t, 1, num(1))
	r.make(hd(2, 1), 0)
	r.close(hd(2, 1), api.Did{})
	for _, h := range []api.Handle{none, hd(1, 1), hd(2, 1), hd(9, 9)} {
		r.wrongSend(none, h, api.ErrArg)
		r.wrongRecv(none, h, api.ErrArg)
	}
}

// P14.2, P14.3: who waits already, in whatever row and with whatever arm, asks nothing, ahead of looking for the channel.
func TestAskedByWaiter(t *testing.T) {
	rows := []api.Row{row(none, api.SideSend), row(none, api.SideRecv), row(hd(1, 1), api.SideSend), row(hd(1, 1), api.SideRecv),
		row(hd(1, 1), api.SideLock), row(hd(7, 7), api.SideJoin), row(hd(9, 9), api.SideSend), row(hd(2, 1), api.SideRecv)}
	for n, at := range rows {
		for _, arm := range []int{0, 1, -1, 49} {
			r := with(t, 2, num(1))
			r.make(hd(2, 1), 0)
			r.close(hd(2, 1), api.Did{})
			r.make(hd(3, 1), 0)
			r.send(who(6), hd(3, 1), num(2), parked())
			r.put(at, who(5), arm, num(int64(n)))
			for _, h := range []api.Handle{none, hd(1, 1), hd(2, 1), hd(3, 1), hd(9, 9)} {
				r.wrongSend(who(5), h, api.ErrChansWaits)
				r.wrongRecv(who(5), h, api.ErrChansWaits)
			}
			// Another generation in the same slot is somebody else.
			r.recv(hd(5, 2), hd(3, 1), got(num(2), sent(who(6), 0)))
		}
	}
}

// P14.2, P14.3: what is neither none nor a channel is refused; handles near a channel's are none of its.
func TestAskedOfNoChannel(t *testing.T) {
	r := with(t, 1)
	for _, h := range []api.Handle{hd(9, 9), hd(1, 2), hd(2, 1), hd(1, 0), hd(0, 1)} {
		r.put(row(h, api.SideSend), who(6), 0, num(1))
		r.put(row(h, api.SideRecv), who(7), 0, num(1))
		r.wrongSend(who(5), h, api.ErrChansHandle)
		r.wrongRecv(who(5), h, api.ErrChansHandle)
		r.wrongClose(h, api.ErrChansHandle)
		r.wrongDrop(h, api.ErrChansHandle)
		r.b.Leave(who(6))
		r.b.Leave(who(7))
	}
}

// The section 'Errors': on a nil *Chans a call with an error answers ErrArg, every other one its zero value.
func TestNil(t *testing.T) {
	var c *Chans
	for _, h := range []api.Handle{none, hd(1, 1)} {
		for _, g := range []api.Handle{none, who(5)} {
			if d, err := c.Send(g, h, num(1)); err != api.ErrArg || !sameDid(d, api.Did{}) {
				t.Errorf("Send: %v, %v", d, err)
			}
			if d, err := c.Recv(g, h); err != api.ErrArg || !sameDid(d, api.Did{}) {
				t.Errorf("Recv: %v, %v", d, err)
			}
		}
		if d, err := c.Close(h); err != api.ErrArg || !sameDid(d, api.Did{}) {
			t.Errorf("Close: %v, %v", d, err)
		}
		for _, size := range []int{-1, 0, 100, 101} {
			if err := c.Make(h, size); err != api.ErrArg {
				t.Errorf("Make: %v", err)
			}
		}
		if err := c.Drop(h); err != api.ErrArg {
			t.Errorf("Drop: %v", err)
		}
		if n, err := c.Len(h); n != 0 || err != api.ErrArg {
			t.Errorf("Len: %d, %v", n, err)
		}
		if n, err := c.Cap(h); n != 0 || err != api.ErrArg {
			t.Errorf("Cap: %d, %v", n, err)
		}
		if c.Has(h) || c.CanSend(h) || c.CanRecv(h) || len(c.Refs(h)) != 0 || c.Count() != 0 {
			t.Errorf("of %v: %v, %v, %v, %v, %d", h, c.Has(h), c.CanSend(h), c.CanRecv(h), c.Refs(h), c.Count())
		}
	}
}

// The section 'Errors': the numbers.
func TestNumbers(t *testing.T) {
	if api.ErrArg != 1 || api.ErrChansHandle != 141 || api.ErrChansThere != 142 || api.ErrChansWaits != 143 {
		t.Error("an error has another number")
	}
}
