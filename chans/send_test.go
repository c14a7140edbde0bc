package chans

import (
	"testing"

	"drowse/api"
)

// P14.2: who sends at none waits there for ever, one behind another; there is nobody to serve them.
func TestSendNone(t *testing.T) {
	r := with(t, 1)
	r.send(who(5), none, num(3), parked())
	r.send(who(6), none, ref(hd(1, 1)), parked())
	r.recv(who(7), none, parked())
	r.put(row(none, api.SideRecv), who(8), 2, num(1))
	r.send(who(9), none, num(4), parked())
	at := row(none, api.SideSend)
	r.waits(entry{at, who(5), 0, num(3)}, entry{at, who(6), 0, ref(hd(1, 1))},
		entry{row(none, api.SideRecv), who(7), 0, api.Value{}}, entry{row(none, api.SideRecv), who(8), 2, num(1)}, entry{at, who(9), 0, num(4)})
	r.close(none, fatal(api.FatalCloseNil))
	r.asks(none, false, false, 0, 0)
}

// P14.2: on a closed channel nobody sends, whether it has room, receivers that others put there, or neither.
func TestSendClosed(t *testing.T) {
	for size := range 3 {
		r := with(t, size)
		r.close(hd(1, 1), api.Did{})
		r.send(who(5), hd(1, 1), num(3), fatal(api.FatalSendClosed))
		r.put(row(hd(1, 1), api.SideRecv), who(6), 1, api.Value{})
		r.send(who(5), hd(1, 1), num(3), fatal(api.FatalSendClosed))
		r.waits(entry{row(hd(1, 1), api.SideRecv), who(6), 1, api.Value{}})
	}
	r := with(t, 2, num(1))
	r.close(hd(1, 1), api.Did{})
	r.send(who(5), hd(1, 1), num(3), fatal(api.FatalSendClosed))
	r.recv(who(5), hd(1, 1), got(num(1)))
	r.send(who(5), hd(1, 1), num(3), fatal(api.FatalSendClosed))
}

// P14.2: the first receiver gets the value, ahead of the ring, also where others put it there while the ring had values.
func TestSendToReceiver(t *testing.T) {
	x := hd(1, 1)
	for _, v := range []api.Value{num(0), num(-1 << 63), num(1<<63 - 1), ref(hd(4, 2)), ref(x)} {
		for size := range 3 {
			r := with(t, size)
			r.recv(who(5), x, parked())
			r.recv(who(6), x, parked())
			r.asks(x, true, false, 0, size)
			r.send(who(7), x, v, woke(gets(who(5), 0, v)))
			r.waits(entry{row(x, api.SideRecv), who(6), 0, api.Value{}})
			r.asks(x, true, false, 0, size)
		}
	}
	r := with(t, 2, num(1))
	r.put(row(x, api.SideRecv), who(5), 7, num(99))
	r.send(who(6), x, num(2), woke(gets(who(5), 7, num(2))))
	r.asks(x, true, true, 1, 2)
	r.recv(who(5), x, got(num(1)))
}

// P14.2: where nobody waits and there is room the ring has the value; a sender that others put there does not hinder.
func TestSendToRing(t *testing.T) {
	x := hd(1, 1)
	r := with(t, 3)
	r.put(row(x, api.SideSend), who(5), 1, num(50))
	for n := range 3 {
		r.send(who(6), x, num(int64(n)), api.Did{})
		r.waits(entry{row(x, api.SideSend), who(5), 1, num(50)})
		r.asks(x, n < 2, true, n+1, 3)
	}
	r.send(who(6), x, num(3), parked())
	r.waits(entry{row(x, api.SideSend), who(5), 1, num(50)}, entry{row(x, api.SideSend), who(6), 0, num(3)})
	r.recv(who(7), x, got(num(0), sent(who(5), 1)))
	r.recv(who(7), x, got(num(1), sent(who(6), 0)))
	for _, n := range []int64{2, 50, 3} {
		r.recv(who(7), x, got(num(n)))
	}
}

// P14.2: where there is no room who sends waits, behind those who do, with its value; nothing else changes.
func TestSendParks(t *testing.T) {
	x := hd(1, 1)
	for size := range 3 {
		r := with(t, size, []api.Value{num(1), num(2)}[:size]...)
		at := row(x, api.SideSend)
		r.send(who(5), x, ref(hd(3, 1)), parked())
		r.waits(entry{at, who(5), 0, ref(hd(3, 1))})
		r.send(who(6), x, num(7), parked())
		r.send(who(4), x, num(0), parked())
		r.waits(entry{at, who(5), 0, ref(hd(3, 1))}, entry{at, who(6), 0, num(7)}, entry{at, who(4), 0, num(0)})
		r.asks(x, false, true, size, size, hd(3, 1))
	}
}

// P14.2: a value is kept as it is, also one that no language has: a number and a handle at once.
func TestSendOddValues(t *testing.T) {
	x, v := hd(1, 1), api.Value{N: 4, H: hd(2, 9)}
	r := with(t, 1, v)
	r.send(who(5), x, api.Value{N: 5, H: hd(0, 9)}, parked())
	r.asks(x, false, true, 1, 1, hd(2, 9), hd(0, 9))
	r.recv(who(6), x, got(v, sent(who(5), 0)))
	r.recv(who(6), x, got(api.Value{N: 5, H: hd(0, 9)}))
	r.recv(who(6), x, parked())
	r.send(who(5), x, v, woke(gets(who(6), 0, v)))
}
