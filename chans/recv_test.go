package chans

import (
	"testing"

	"drowse/api"
)

// P14.3: who receives at none waits there for ever.
func TestRecvNone(t *testing.T) {
	r := with(t, 1)
	r.recv(who(5), none, parked())
	r.recv(who(6), none, parked())
	r.send(who(7), none, num(3), parked())
	r.put(row(none, api.SideSend), who(8), 2, num(1))
	r.recv(who(9), none, parked())
	at := row(none, api.SideRecv)
	r.waits(entry{at, who(5), 0, api.Value{}}, entry{at, who(6), 0, api.Value{}},
		entry{row(none, api.SideSend), who(7), 0, num(3)}, entry{row(none, api.SideSend), who(8), 2, num(1)}, entry{at, who(9), 0, api.Value{}})
	r.asks(none, false, false, 0, 0)
}

// P14.3: what the ring has comes first; then the first sender's value is in the ring, behind all others, and it is woken.
func TestRecvFromRing(t *testing.T) {
	x := hd(1, 1)
	r := with(t, 2, ref(hd(3, 1)), num(2))
	r.send(who(5), x, num(3), parked())
	r.send(who(6), x, ref(hd(4, 1)), parked())
	r.asks(x, false, true, 2, 2, hd(3, 1), hd(4, 1))
	r.recv(who(7), x, got(ref(hd(3, 1)), sent(who(5), 0)))
	r.waits(entry{row(x, api.SideSend), who(6), 0, ref(hd(4, 1))})
	r.asks(x, false, true, 2, 2, hd(4, 1))
	r.recv(who(7), x, got(num(2), sent(who(6), 0)))
	r.waits()
	r.asks(x, false, true, 2, 2, hd(4, 1))
	r.recv(who(7), x, got(num(3)))
	r.asks(x, true, true, 1, 2, hd(4, 1))
	r.recv(who(7), x, got(ref(hd(4, 1))))
	r.asks(x, true, false, 0, 2)
}

// P14.3: with an empty ring the first sender's value is the answer, whether there is room or not.
func TestRecvFromSender(t *testing.T) {
	x := hd(1, 1)
	r := with(t, 0)
	r.send(who(5), x, num(3), parked())
	r.send(who(6), x, ref(x), parked())
	r.recv(who(7), x, got(num(3), sent(who(5), 0)))
	r.waits(entry{row(x, api.SideSend), who(6), 0, ref(x)})
	r.recv(who(7), x, got(ref(x), sent(who(6), 0)))
	r.waits()
	r = with(t, 2)
	r.put(row(x, api.SideSend), who(5), 3, num(1))
	r.put(row(x, api.SideSend), who(6), 1, num(2))
	r.recv(who(7), x, got(num(1), sent(who(5), 3)))
	r.asks(x, true, true, 0, 2)
	r.waits(entry{row(x, api.SideSend), who(6), 1, num(2)})
}

// P14.3: a closed channel tells what it has still, then nothing, for ever.
func TestRecvClosed(t *testing.T) {
	x := hd(1, 1)
	values := []api.Value{num(0), ref(hd(3, 1)), num(5)}
	for size := range len(values) + 1 {
		r := with(t, size, values[:size]...)
		r.close(x, api.Did{})
		for n := range size {
			r.recv(who(7), x, got(values[n]))
			var left []api.Handle
			if n < 1 && size > 1 {
				left = append(left, hd(3, 1))
			}
			r.asks(x, true, true, size-n-1, size, left...)
		}
		for range 3 {
			r.recv(who(7), x, api.Did{})
			r.asks(x, true, true, 0, size)
		}
		r.waits()
	}
}

// P14.3: senders that others put at a closed channel are served ahead of telling that it is closed.
func TestRecvClosedSenders(t *testing.T) {
	x := hd(1, 1)
	r := with(t, 1, num(1))
	r.close(x, api.Did{})
	r.put(row(x, api.SideSend), who(5), 3, num(2))
	r.put(row(x, api.SideSend), who(6), 4, num(3))
	r.recv(who(7), x, got(num(1), sent(who(5), 3)))
	r.recv(who(7), x, got(num(2), sent(who(6), 4)))
	r.recv(who(7), x, got(num(3)))
	r.recv(who(7), x, api.Did{})
	r.put(row(x, api.SideSend), who(5), 3, num(4))
	r.recv(who(7), x, got(num(4), sent(who(5), 3)))
	r.recv(who(7), x, api.Did{})
}

// P14.3: where there is nothing who receives waits, behind those who do, without a value.
func TestRecvParks(t *testing.T) {
	x := hd(1, 1)
	for size := range 3 {
		r := with(t, size)
		at := row(x, api.SideRecv)
		r.recv(who(5), x, parked())
		r.waits(entry{at, who(5), 0, api.Value{}})
		r.recv(who(6), x, parked())
		r.recv(who(4), x, parked())
		r.waits(entry{at, who(5), 0, api.Value{}}, entry{at, who(6), 0, api.Value{}}, entry{at, who(4), 0, api.Value{}})
		r.asks(x, true, false, 0, size)
	}
}
