package sel

import (
	"fmt"
	"math/rand"
	"slices"
	"testing"

	"drowse/api"
)

// P15.5: a select of several rows is woken by a send, a receive or a close at each of them, for that arm, once; then it waits nowhere.
func TestWokenForEach(t *testing.T) {
	arms := list(in(none), out(ch(1), num(10)), in(ch(2)), out(ch(3), num(30)), in(ch(4)), out(none, num(1)))
	calls := []struct {
		name string
		do   func(r *rig)
	}{
		{"receive of 1.1", func(r *rig) { r.recv(who(6), ch(1), got(num(10), sent(who(5), 1))) }},
		{"send to 2.1", func(r *rig) { r.send(who(6), ch(2), num(7), woke(gets(who(5), 2, num(7)))) }},
		{"receive of 3.1, which is full", func(r *rig) { r.recv(who(6), ch(3), got(num(3), sent(who(5), 3))) }},
		{"send to 4.1, which has room", func(r *rig) { r.send(who(6), ch(4), num(8), woke(gets(who(5), 4, num(8)))) }},
		{"close of 1.1", func(r *rig) { r.close(ch(1), woke(dies(who(5), 1))) }},
		{"close of 2.1", func(r *rig) { r.close(ch(2), woke(ends(who(5), 2))) }},
		{"close of 3.1", func(r *rig) { r.close(ch(3), woke(dies(who(5), 3))) }},
		{"close of 4.1", func(r *rig) { r.close(ch(4), woke(ends(who(5), 4))) }},
	}
	for _, c := range calls {
		t.Run(c.name, func(t *testing.T) {
			r := made(t, 0, 0, 1, 1)
			r.send(who(6), ch(3), num(3), api.Did{})
			r.park(who(5), arms...)
			c.do(r)
			r.waits()
			r.notAgain()
		})
	}
}

// notAgain looks whether nobody is left whom a close of the channels could wake.
func (r *rig) notAgain() {
	r.t.Helper()
	for n := range 4 {
		if d, _ := r.c.Close(ch(n + 1)); len(d.Woken) != 0 {
			r.t.Fatalf("woken again: %v", d)
		}
	}
}

// P15.5: with several arms of one channel it is the first one, of the side that is asked, for which it is woken; with a close the receivers' side is ahead.
func TestWokenOfOneChannel(t *testing.T) {
	x := ch(1)
	arms := list(out(x, num(10)), in(x), out(x, num(12)), in(x))
	r := made(t, 0)
	r.park(who(5), arms...)
	r.recv(who(6), x, got(num(10), sent(who(5), 0)))
	r.park(who(5), arms...)
	r.send(who(6), x, num(7), woke(gets(who(5), 1, num(7))))
	r.park(who(5), arms...)
	r.close(x, woke(ends(who(5), 1)))
	r.waits()
	r = made(t, 0)
	r.park(who(5), out(x, num(10)), out(x, num(11)))
	r.close(x, woke(dies(who(5), 0)))
	r.waits()
}

// P15.5, T5: several in the same rows are woken in the order in which they parked, each for the arm that was served.
func TestWokenInOrder(t *testing.T) {
	x, y := ch(1), ch(2)
	r := made(t, 0, 0)
	const all = 60
	for n := range all {
		arms := list(in(x), out(y, num(int64(n))))
		if n%2 == 1 {
			slices.Reverse(arms)
		}
		r.park(who(10+n), arms...)
	}
	for n := range all - 10 {
		if n%3 == 0 {
			r.send(who(5), x, num(int64(-n)), woke(gets(who(10+n), n%2, num(int64(-n)))))
		} else {
			r.recv(who(5), y, got(num(int64(n)), sent(who(10+n), 1-n%2)))
		}
	}
	var woken []api.Wake
	for n := all - 10; n < all; n++ {
		woken = append(woken, ends(who(10+n), n%2))
	}
	r.close(x, woke(woken...))
	r.waits()
	r.close(y, api.Did{})
}

// P15.5: a sender's value in a full ring's row comes behind those that were there.
func TestWokenIntoRing(t *testing.T) {
	x := ch(1)
	r := made(t, 2, 0)
	r.send(who(6), x, num(1), api.Did{})
	r.send(who(6), x, num(2), api.Did{})
	r.park(who(5), in(ch(2)), out(x, num(3)))
	r.send(who(7), x, num(4), parked())
	r.recv(who(6), x, got(num(1), sent(who(5), 1)))
	r.recv(who(6), x, got(num(2), sent(who(7), 0)))
	r.recv(who(6), x, got(num(3)))
	r.recv(who(6), x, got(num(4)))
}

// P15.5: the two sides of one select don't meet: it waits with both until somebody else asks.
func TestSidesDoNotMeet(t *testing.T) {
	x := ch(1)
	r := made(t, 0, 0)
	r.park(who(5), in(x), out(x, num(1)), in(none))
	arms := list(in(ch(2)), in(x))
	r.poll(arms, 1)
	r.wrongPark(who(6), arms, api.ErrSelReady)
	r.take(who(6), arms, 1, got(num(1), sent(who(5), 1)))
	r.waits()
}

// P15.5: a select of one arm is that Send, or Recv: in each way that a channel can be, and of none.
func TestOneArmEach(t *testing.T) {
	all := append(kinds(), kind{name: "none"})
	for _, k := range all {
		for _, sends := range []bool{true, false} {
			t.Run(fmt.Sprint(k.name, sends), func(t *testing.T) {
				one, two := made(t), made(t)
				arm := api.Arm{Send: sends, V: num(5)}
				if k.lay != nil {
					k.lay(one, ch(1))
					k.lay(two, ch(1))
					arm.Chan = ch(1)
				}
				alone(one, two, who(5), arm)
			})
		}
	}
}

// alone asks one rig by Send or Recv, the other one by a select of that arm, and looks whether all is the same.
func alone(one, two *rig, g api.Handle, arm api.Arm) {
	one.t.Helper()
	call := one.c.Recv
	if arm.Send {
		call = func(g, h api.Handle) (api.Did, api.Errno) { return one.c.Send(g, h, arm.V) }
	}
	did, code := call(g, arm.Chan)
	d, err := two.choose(g, list(arm), 0)
	if err != code || !sameDid(d, did) {
		one.t.Fatalf("%v alone: %v, %v; as a select: %v, %v", arm, did, code, d, err)
	}
	if a, b := one.state(), two.state(); a != b {
		one.t.Fatalf("%v alone has come to\n%s, as a select to\n%s", arm, a, b)
	}
}

// choose takes the k-th of the arms that are ready, counted round and round, or parks.
func (r *rig) choose(g api.Handle, arms []api.Arm, k int) (api.Did, api.Errno) {
	r.t.Helper()
	can, err := r.s.Poll(arms)
	if err == api.OK && len(can) > 0 {
		return r.s.Take(g, arms, can[k%len(can)])
	}
	if err := r.s.Park(g, arms); err != api.OK {
		return api.Did{}, err
	}
	return parked(), api.OK
}

// P15.5: a select of one arm is that Send, or Recv, in all that comes behind, too.
func TestOneArmByChance(t *testing.T) {
	often := []api.Handle{ch(1), ch(1), ch(1), ch(2), ch(2), ch(2), ch(3), ch(3), ch(3), none, hd(9, 9)}
	for seed := range int64(200) {
		c := rand.New(rand.NewSource(seed))
		one, two := made(t, 0, 1, 2), made(t, 0, 1, 2)
		for n := range 150 {
			h := often[c.Intn(len(often))]
			if c.Intn(40) == 0 {
				d, err := one.c.Close(h)
				e, code := two.c.Close(h)
				if err != code || !sameDid(d, e) {
					t.Fatalf("Close(%v): %v, %v; %v, %v", h, d, err, e, code)
				}
				continue
			}
			alone(one, two, who(c.Intn(8)+1), api.Arm{Chan: h, Send: c.Intn(2) == 0, V: num(int64(n))})
		}
	}
}

// double is two rigs with the same channels: in the one somebody waits for its arms, in the other one each arm has somebody of its own who waits for it alone.
type double struct {
	one, two *rig
	c        *rand.Rand
	woken    int
}

// stand is who waits in the other rig for an arm of g.
func stand(g api.Handle, arm int) api.Handle { return hd(g.Slot*100+uint32(arm)+1, 7) }

// whose is for whom somebody stands, and for which arm.
func whose(h api.Handle) (api.Handle, int) { return hd(h.Slot/100, 1), int(h.Slot%100) - 1 }

// park lets g wait in both.
func (d *double) park(g api.Handle, arms []api.Arm) {
	d.one.t.Helper()
	d.one.park(g, arms...)
	for i, a := range arms {
		at := row(a.Chan, api.SideRecv)
		if a.Send {
			at.Side = api.SideSend
		} else {
			a.V = api.Value{}
		}
		d.two.put(at, stand(g, i), 0, a.V)
	}
}

// compare looks whether the one who waits for all is woken as the first one of those who wait alone would be; the others of these go home.
func (d *double) compare(what string, did api.Did, err api.Errno, alone api.Did, code api.Errno) {
	t := d.one.t
	t.Helper()
	var woken []api.Wake
	for _, w := range alone.Woken {
		g, arm := whose(w.Who)
		if slices.ContainsFunc(woken, func(x api.Wake) bool { return x.Who == g }) {
			continue
		}
		for i := range api.MaxArms {
			d.two.b.Leave(stand(g, i))
		}
		if w.Got.Arm != 0 {
			t.Fatalf("%s: alone with the arm %d", what, w.Got.Arm)
		}
		w.Who, w.Got.Arm = g, arm
		woken = append(woken, w)
		if n := len(d.one.b.Of(g)); n != 0 {
			t.Fatalf("%s: %v has %d waits left", what, g, n)
		}
	}
	alone.Woken = woken
	d.woken += len(woken)
	if err != code || !sameDid(did, alone) {
		t.Fatalf("%s: %v, %v; alone %v, %v", what, did, err, alone, code)
	}
	d.waits()
}

// waits looks whether both have the same waits.
func (d *double) waits() {
	d.one.t.Helper()
	want := d.two.entries()
	for i := range want {
		g, arm := whose(want[i].who)
		want[i].who, want[i].arm = g, want[i].arm+arm
	}
	d.one.waits(want...)
}

// arms are a few arms by chance.
func (d *double) arms(n int) []api.Arm {
	var all []api.Arm
	for i := range d.c.Intn(6) {
		h := []api.Handle{ch(1), ch(2), ch(3), ch(4), none}[d.c.Intn(5)]
		all = append(all, api.Arm{Chan: h, Send: d.c.Intn(2) == 0, V: num(int64(n*10 + i))})
	}
	return all
}

// step does one call in both.
func (d *double) step(n int) {
	d.one.t.Helper()
	g := who(d.c.Intn(12) + 1)
	if d.c.Intn(60) == 0 {
		h := ch(d.c.Intn(4) + 1)
		did, err := d.one.c.Close(h)
		alone, code := d.two.c.Close(h)
		d.compare(fmt.Sprint("Close ", h), did, err, alone, code)
		return
	}
	if len(d.one.b.Of(g)) > 0 {
		return
	}
	arms := d.arms(n)
	can, err := d.one.s.Poll(arms)
	if err != api.OK {
		d.one.t.Fatal(err)
	}
	if len(can) == 0 {
		d.park(g, arms)
		return
	}
	i := can[d.c.Intn(len(can))]
	did, err := d.one.s.Take(g, arms, i)
	var alone api.Did
	var code api.Errno
	if arms[i].Send {
		alone, code = d.two.c.Send(stand(g, i), arms[i].Chan, arms[i].V)
	} else {
		alone, code = d.two.c.Recv(stand(g, i), arms[i].Chan)
	}
	d.compare(fmt.Sprint("Take ", arms, i), did, err, alone, code)
}

// P15.5: who waits for several arms comes back with what it would come back with from the one alone; selects by chance of which some park.
func TestAsAlone(t *testing.T) {
	woken := 0
	for seed := range int64(300) {
		d := &double{one: made(t, 0, 0, 1, 3), two: made(t, 0, 0, 1, 3), c: rand.New(rand.NewSource(seed))}
		for n := range 120 {
			d.step(n)
		}
		woken += d.woken
	}
	if woken < 3000 {
		t.Errorf("only %d were woken", woken)
	}
}
