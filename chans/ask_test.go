package chans

import (
	"testing"

	"drowse/api"
)

// P14.5: CanSend holds just for channels that are closed, have receivers, or room.
func TestCanSend(t *testing.T) {
	x := hd(1, 1)
	for size := range 3 {
		r := with(t, size, []api.Value{num(1), num(2)}[:size]...)
		r.asks(x, false, size > 0, size, size)
		r.put(row(x, api.SideSend), who(5), 0, num(1))
		r.put(row(x, api.SideLock), who(6), 0, num(1))
		r.put(row(none, api.SideRecv), who(7), 0, num(1))
		r.put(row(hd(1, 2), api.SideRecv), who(8), 0, num(1))
		r.asks(x, false, true, size, size)
		r.put(row(x, api.SideRecv), who(9), 0, num(1))
		r.asks(x, true, true, size, size)
		r.b.Leave(who(9))
		r.asks(x, false, true, size, size)
		r.close(x, woke(dies(who(5), 0)))
		r.asks(x, true, true, size, size)
	}
}

// P14.5: CanRecv holds just for channels that have values, senders, or are closed.
func TestCanRecv(t *testing.T) {
	x := hd(1, 1)
	for size := range 3 {
		r := with(t, size)
		r.asks(x, size > 0, false, 0, size)
		r.put(row(x, api.SideRecv), who(5), 0, num(1))
		r.put(row(x, api.SideJoin), who(6), 0, num(1))
		r.put(row(none, api.SideSend), who(7), 0, num(1))
		r.put(row(hd(2, 1), api.SideSend), who(8), 0, num(1))
		r.asks(x, true, false, 0, size)
		r.put(row(x, api.SideSend), who(9), 0, num(1))
		r.asks(x, true, true, 0, size)
		r.b.Leave(who(9))
		r.asks(x, true, false, 0, size)
		r.close(x, woke(ends(who(5), 0)))
		r.asks(x, true, true, 0, size)
	}
}

// P14.5: none can nothing, has nothing and no room, and leads nowhere, whoever waits there; what is no channel is an error.
func TestAskNone(t *testing.T) {
	r := with(t, 1, num(1))
	r.asks(none, false, false, 0, 0)
	r.send(who(5), none, ref(hd(3, 1)), parked())
	r.recv(who(6), none, parked())
	r.asks(none, false, false, 0, 0)
	r.put(row(hd(2, 1), api.SideSend), who(7), 0, ref(hd(3, 1)))
	r.put(row(hd(2, 1), api.SideRecv), who(8), 0, ref(hd(3, 1)))
	for _, h := range []api.Handle{hd(2, 1), hd(1, 2), hd(1, 0), hd(0, 1), hd(99, 99)} {
		if n, err := r.c.Len(h); n != 0 || err != api.ErrChansHandle {
			t.Errorf("Len(%v): %d, %v", h, n, err)
		}
		if n, err := r.c.Cap(h); n != 0 || err != api.ErrChansHandle {
			t.Errorf("Cap(%v): %d, %v", h, n, err)
		}
		if l := r.c.Refs(h); len(l) != 0 || r.c.CanSend(h) || r.c.CanRecv(h) || r.c.Has(h) {
			t.Errorf("of %v: Refs %v, %v, %v, %v", h, l, r.c.CanSend(h), r.c.CanRecv(h), r.c.Has(h))
		}
	}
}

// P14.5: references in the ring, then the senders', each as often as it is there, in order; receivers' values don't count.
func TestRefs(t *testing.T) {
	x := hd(1, 1)
	r := with(t, 4, ref(hd(9, 1)), num(4), ref(hd(2, 1)), ref(hd(9, 1)))
	r.asks(x, false, true, 4, 4, hd(9, 1), hd(2, 1), hd(9, 1))
	r.send(who(5), x, ref(x), parked())
	r.send(who(6), x, num(7), parked())
	r.send(who(7), x, ref(hd(2, 1)), parked())
	r.put(row(x, api.SideRecv), who(8), 0, ref(hd(30, 1)))
	r.put(row(x, api.SideLock), who(8), 1, ref(hd(31, 1)))
	r.put(row(none, api.SideSend), who(8), 2, ref(hd(32, 1)))
	r.asks(x, true, true, 4, 4, hd(9, 1), hd(2, 1), hd(9, 1), x, hd(2, 1))
	r.recv(who(1), x, got(ref(hd(9, 1)), sent(who(5), 0)))
	r.asks(x, true, true, 4, 4, hd(2, 1), hd(9, 1), x, hd(2, 1))
	r.recv(who(1), x, got(num(4), sent(who(6), 0)))
	r.asks(x, true, true, 4, 4, hd(2, 1), hd(9, 1), x, hd(2, 1))
	r.close(x, woke(ends(who(8), 0), dies(who(7), 0)))
	r.asks(x, true, true, 4, 4, hd(2, 1), hd(9, 1), x)
}

// P14.5: a full ring of a hundred references, and as many senders, are told whole, wherever in the ring the first one lies.
func TestRefsMany(t *testing.T) {
	x := hd(1, 1)
	for _, turned := range []int{0, 1, 37, 99} {
		r := with(t, api.MaxBuffer)
		for range turned {
			r.send(who(5), x, ref(hd(9, 9)), api.Did{})
			r.recv(who(5), x, got(ref(hd(9, 9))))
		}
		var want []api.Handle
		for n := range 2 * api.MaxBuffer {
			h, did := hd(uint32(n+1), uint32(n+2)), api.Did{}
			if n >= api.MaxBuffer {
				did = parked()
			}
			r.send(who(10+n), x, ref(h), did)
			want = append(want, h)
		}
		r.asks(x, false, true, api.MaxBuffer, api.MaxBuffer, want...)
	}
}
