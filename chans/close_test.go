package chans

import (
	"testing"

	"drowse/api"
)

// P14.4: none is not closed, nor what is closed, nor what is no channel.
func TestCloseFates(t *testing.T) {
	r := with(t, 1)
	r.recv(who(5), none, parked())
	r.send(who(6), none, num(1), parked())
	r.close(none, fatal(api.FatalCloseNil))
	r.wrongClose(hd(1, 2), api.ErrChansHandle)
	r.wrongClose(hd(2, 1), api.ErrChansHandle)
	r.close(hd(1, 1), api.Did{})
	r.close(hd(1, 1), fatal(api.FatalCloseClosed))
	r.put(row(hd(1, 1), api.SideRecv), who(7), 0, num(1))
	r.put(row(hd(1, 1), api.SideSend), who(8), 0, num(1))
	r.close(hd(1, 1), fatal(api.FatalCloseClosed))
	if r.b.Count() != 4 {
		t.Errorf("%d waits, want 4", r.b.Count())
	}
}

// P14.4: all receivers are woken without a value, in the order in which they began to wait: none, one, two, many.
func TestCloseReceivers(t *testing.T) {
	x := hd(1, 1)
	for _, many := range []int{0, 1, 2, 3, 499} {
		r := with(t, 1)
		r.make(hd(2, 1), 0)
		r.recv(who(1000), hd(2, 1), parked())
		var woken []api.Wake
		for n := range many {
			// Rising numbers and falling ones: the order is that of the waits, not of the goroutines.
			g := who(500 + n*(1-n%2*2))
			r.recv(g, x, parked())
			woken = append(woken, ends(g, 0))
		}
		r.close(x, woke(woken...))
		r.waits(entry{row(hd(2, 1), api.SideRecv), who(1000), 0, api.Value{}})
		r.asks(x, true, true, 0, 1)
		r.asks(hd(2, 1), true, false, 0, 0)
	}
}

// P14.4: all senders are woken with the fate that ends the run; what they would have sent is gone, what the ring has stays.
func TestCloseSenders(t *testing.T) {
	x := hd(1, 1)
	for _, many := range []int{1, 2, 3, 499} {
		for size := range 2 {
			r := with(t, size, []api.Value{ref(hd(8, 1))}[:size]...)
			var woken []api.Wake
			for n := range many {
				g := who(500 + n*(1-n%2*2))
				r.send(g, x, ref(hd(9, 1)), parked())
				woken = append(woken, dies(g, 0))
			}
			r.close(x, woke(woken...))
			r.waits()
			r.asks(x, true, true, size, size, []api.Handle{hd(8, 1)}[:size]...)
			if size > 0 {
				r.recv(who(5), x, got(ref(hd(8, 1))))
			}
			r.recv(who(5), x, api.Did{})
		}
	}
}

// P14.4: receivers stand ahead of senders, whoever began to wait first; arms are told.
func TestCloseBoth(t *testing.T) {
	x := hd(1, 1)
	r := with(t, 1, num(1))
	r.put(row(x, api.SideSend), who(5), 3, num(2))
	r.put(row(x, api.SideRecv), who(6), 0, num(9))
	r.put(row(x, api.SideSend), who(7), -4, num(3))
	r.put(row(x, api.SideRecv), who(8), 1<<40, num(9))
	r.put(row(x, api.SideLock), who(9), 1, num(9))
	r.close(x, woke(ends(who(6), 0), ends(who(8), 1<<40), dies(who(5), 3), dies(who(7), -4)))
	r.waits(entry{row(x, api.SideLock), who(9), 1, num(9)})
	r.recv(who(5), x, got(num(1)))
	r.recv(who(5), x, api.Did{})
}

// P14.4: who has several waits at one channel is woken once, for the first of them: as a receiver, if it is one.
func TestCloseTwiceThere(t *testing.T) {
	x := hd(1, 1)
	r := with(t, 0)
	r.put(row(x, api.SideSend), who(5), 0, num(2))
	r.put(row(x, api.SideRecv), who(5), 1, num(9))
	r.put(row(x, api.SideSend), who(6), 0, num(2))
	r.put(row(x, api.SideSend), who(6), 1, num(2))
	r.put(row(x, api.SideRecv), who(7), 5, num(9))
	r.put(row(x, api.SideRecv), who(8), 0, num(9))
	r.put(row(x, api.SideRecv), who(7), 6, num(9))
	r.put(row(x, api.SideRecv), who(5), 2, num(9))
	r.close(x, woke(ends(who(5), 1), ends(who(7), 5), ends(who(8), 0), dies(who(6), 0)))
	r.waits()
}
