package chans

import (
	"math/rand"
	"slices"
	"testing"

	"drowse/api"
)

// log is what was sent on a channel and what was received there, both in order; what came back unsent; who waits, in order, at which side.
type log struct {
	sent, received, unsent []api.Value
	waiting                map[api.Handle]api.Value
	senders, receivers     []api.Handle
}

// anyCall sends, receives or, seldom, closes, by somebody who does not wait, and writes down what comes of it.
func (l *log) anyCall(r *rig, c *rand.Rand, x api.Handle, n int) {
	r.t.Helper()
	g := who(c.Intn(30) + 1)
	if len(r.b.Of(g)) > 0 {
		return
	}
	var d api.Did
	switch k := c.Intn(200); {
	case k == 0:
		d, _ = r.c.Close(x)
	case k%2 == 0:
		v := num(int64(n))
		d, _ = r.c.Send(g, x, v)
		if d.Fate < api.FatalAsleep {
			l.sent = append(l.sent, v)
		}
		if d.Fate == api.Parked {
			l.waiting[g] = v
			l.senders = append(l.senders, g)
		}
	default:
		d, _ = r.c.Recv(g, x)
		if d.OK {
			l.received = append(l.received, d.V)
		}
		if d.Fate == api.Parked {
			l.receivers = append(l.receivers, g)
		}
	}
	for _, w := range d.Woken {
		l.woken(r, w)
	}
}

// woken writes down what somebody comes back with, and looks whether it is its turn.
func (l *log) woken(r *rig, w api.Wake) {
	r.t.Helper()
	v, sends := l.waiting[w.Who]
	line := &l.receivers
	if sends {
		line = &l.senders
	}
	if (*line)[0] != w.Who {
		r.t.Fatalf("%v is woken, not %v", w.Who, (*line)[0])
	}
	*line = (*line)[1:]
	delete(l.waiting, w.Who)
	switch {
	case w.Got.Fate == api.FatalSendClosed && sends:
		l.unsent = append(l.unsent, v)
	case sends && w.Got != api.Got{}:
		r.t.Fatalf("a sender is woken with %v", w.Got)
	case w.Got.OK:
		l.received = append(l.received, w.Got.V)
	}
}

// check looks whether what was sent was received, in order, once, or is still there, or came back; and whether who waits must.
func (l *log) check(r *rig, x api.Handle) {
	r.t.Helper()
	all := slices.Clone(l.received)
	all = slices.AppendSeq(all, r.c.channels[x].holds.All())
	for _, w := range r.b.Row(row(x, api.SideSend)) {
		all = append(all, w.V)
	}
	all = append(all, l.unsent...)
	if !slices.Equal(all, l.sent) {
		r.t.Fatalf("sent: %v; received %v, unsent %v, all %v", l.sent, l.received, l.unsent, all)
	}
	sends, receives := len(r.b.Row(row(x, api.SideSend))), len(r.b.Row(row(x, api.SideRecv)))
	if sends > 0 && r.c.CanSend(x) || receives > 0 && r.c.CanRecv(x) || sends > 0 && receives > 0 {
		r.t.Fatalf("%d senders wait, CanSend is %v; %d receivers wait, CanRecv is %v", sends, r.c.CanSend(x), receives, r.c.CanRecv(x))
	}
	if sends != len(l.senders) || receives != len(l.receivers) {
		r.t.Fatalf("%d senders and %d receivers wait, want %d and %d", sends, receives, len(l.senders), len(l.receivers))
	}
}

// P14.6, T5: what is received is what was sent, in order, each once; who waits must, and is served in turn.
func TestFollows(t *testing.T) {
	x := hd(1, 1)
	for seed := range int64(150) {
		for _, size := range []int{0, 1, 2, 7, 100} {
			c := rand.New(rand.NewSource(seed))
			r, l := made(t), &log{waiting: map[api.Handle]api.Value{}}
			r.c.Make(x, size)
			for n := range 250 {
				l.anyCall(r, c, x, n)
				l.check(r, x)
			}
		}
	}
}

// P14.6: more is sent than there is room for, by many; one receives it all, in order.
func TestAllComeThrough(t *testing.T) {
	x := hd(1, 1)
	for _, size := range []int{0, 1, 50, 100} {
		r := with(t, size)
		const many = 300
		for n := range many {
			did := api.Did{}
			if n >= size {
				did = parked()
			}
			r.send(who(2+n), x, num(int64(n)), did)
		}
		for n := range many {
			want := got(num(int64(n)))
			if n+size < many {
				want.Woken = []api.Wake{sent(who(2+n+size), 0)}
			}
			r.recv(who(1), x, want)
		}
		r.recv(who(1), x, parked())
		r.waits(entry{row(x, api.SideRecv), who(1), 0, api.Value{}})
	}
}

// P14.6: senders whose values were not received come back with the fate that ends the run; what the ring has is received still.
func TestCloseBetween(t *testing.T) {
	x := hd(1, 1)
	r := with(t, 3)
	for n := range 6 {
		r.c.Send(who(2+n), x, num(int64(n)))
	}
	r.recv(who(1), x, got(num(0), sent(who(5), 0)))
	r.close(x, woke(dies(who(6), 0), dies(who(7), 0)))
	for n := range 3 {
		r.recv(who(1), x, got(num(int64(n+1))))
	}
	r.recv(who(1), x, api.Did{})
}
