package locks

import (
	"testing"

	"drowse/api"
)

// P16.2: a free mutex is held at once by who asks; all others wait behind one another, with the arm 0 and no value.
func TestLock(t *testing.T) {
	m := hd(1, 1)
	r := held(t, none)
	r.holds(m, none)
	r.lock(who(5), m, done())
	r.holds(m, who(5))
	r.waits()
	r.lock(who(6), m, parked())
	r.lock(hd(6, 2), m, parked())
	r.lock(hd(0, 6), m, parked())
	r.holds(m, who(5))
	r.waits(wants(who(6), m), wants(hd(6, 2), m), wants(hd(0, 6), m))
}

// P16.2: who holds it and asks again waits for itself, as others do.
func TestLockAgain(t *testing.T) {
	m := hd(1, 1)
	r := held(t, who(5))
	r.lock(who(5), m, parked())
	r.holds(m, who(5))
	r.waits(wants(who(5), m))
	r.wrongLock(who(5), m, api.ErrLocksWaits)
	r.lock(who(6), m, parked())
	r.unlock(m, woke(who(5)))
	r.holds(m, who(5))
	r.lock(who(5), m, parked())
	r.unlock(m, woke(who(6)))
	r.holds(m, who(6))
	r.unlock(m, woke(who(5)))
	r.holds(m, who(5))
	r.unlock(m, done())
	r.holds(m, none)
}

// P16.2: of several mutexes each has its own holder and its own lockers; one may hold several.
func TestLockSeveral(t *testing.T) {
	r := made(t)
	a, b, c := hd(1, 1), hd(1, 2), hd(2, 1)
	for _, m := range []api.Handle{a, b, c} {
		r.make(m, api.KindMutex)
	}
	r.lock(who(5), a, done())
	r.lock(who(5), b, done())
	r.lock(who(6), c, done())
	r.lock(who(6), b, parked())
	r.lock(who(7), a, parked())
	r.lock(who(5), c, parked())
	r.waits(wants(who(6), b), wants(who(7), a), wants(who(5), c))
	r.unlock(a, woke(who(7)))
	r.holds(a, who(7))
	r.holds(b, who(5))
	r.holds(c, who(6))
	r.unlock(c, woke(who(5)))
	r.unlock(b, woke(who(6)))
	r.holds(a, who(7))
	r.holds(b, who(6))
	r.holds(c, who(5))
	r.waits()
}

// P16.2: a free mutex is held by who asks, though others have put waits among its lockers; these have it first behind that.
func TestLockWaitsOfOthers(t *testing.T) {
	m := hd(1, 1)
	r := held(t, none)
	r.put(row(m, api.SideLock), who(7), 4, num(9))
	r.lock(who(5), m, done())
	r.holds(m, who(5))
	r.lock(who(6), m, parked())
	r.waits(entry{row(m, api.SideLock), who(7), 4, num(9)}, wants(who(6), m))
	r.unlock(m, wokeArm(who(7), 4))
	r.holds(m, who(7))
	r.unlock(m, woke(who(6)))
	r.holds(m, who(6))
	r.unlock(m, done())
}

// P16.3: whoever asks, it is the mutex that is unlocked; a free one may not be.
func TestUnlock(t *testing.T) {
	m := hd(1, 1)
	r := held(t, none)
	r.unlock(m, fatal(api.FatalUnlock))
	r.holds(m, none)
	r.lock(who(5), m, done())
	r.unlock(m, done())
	r.holds(m, none)
	r.unlock(m, fatal(api.FatalUnlock))
	r.lock(who(6), m, done())
	r.holds(m, who(6))
	r.unlock(m, done())
	r.unlock(m, fatal(api.FatalUnlock))
}

// P16.3: the first locker has it, and just that one; the mutex is never free between.
func TestUnlockGivesOn(t *testing.T) {
	m := hd(1, 1)
	r := held(t, who(1))
	const many = 200
	for n := range many {
		r.lock(who(1000-n), m, parked())
	}
	for n := range many {
		r.unlock(m, woke(who(1000-n)))
		r.holds(m, who(1000-n))
		if left := r.b.Count(); left != many-1-n {
			t.Fatalf("%d waits, want %d", left, many-1-n)
		}
	}
	r.unlock(m, done())
	r.unlock(m, fatal(api.FatalUnlock))
}

// P16.3: a free mutex is not unlocked, whoever waits for it by others' doing; waits of other rows are not its lockers.
func TestUnlockWaitsOfOthers(t *testing.T) {
	m := hd(1, 1)
	r := held(t, none)
	r.put(row(m, api.SideLock), who(7), 2, num(1))
	r.unlock(m, fatal(api.FatalUnlock))
	r.b.Leave(who(7))
	r.lock(who(5), m, done())
	r.put(row(m, api.SideJoin), who(7), 0, num(1))
	r.put(row(m, api.SideSend), who(7), 1, num(1))
	r.put(row(none, api.SideLock), who(8), 0, num(1))
	r.put(row(hd(1, 2), api.SideLock), who(8), 1, num(1))
	r.unlock(m, done())
	r.holds(m, none)
	if r.b.Count() != 4 {
		t.Errorf("waits: %v", r.entries())
	}
}

// P16.6: Holder tells of mutexes alone.
func TestHolder(t *testing.T) {
	r := held(t, who(5))
	r.make(hd(2, 1), api.KindGroup)
	r.put(row(hd(3, 1), api.SideLock), who(6), 0, num(1))
	for _, h := range []api.Handle{none, hd(2, 1), hd(1, 2), hd(3, 1), hd(1, 0), hd(0, 1)} {
		if g, err := r.l.Holder(h); g != none || err != api.ErrLocksHandle {
			t.Errorf("Holder(%v): %v, %v", h, g, err)
		}
	}
	r.holds(hd(1, 1), who(5))
}

// P16.2 to P16.6: at none there is no mutex, but who asks there has gone wrong in the language, not in the call.
func TestMutexNone(t *testing.T) {
	r := held(t, who(5))
	r.put(row(none, api.SideLock), who(7), 0, num(1))
	r.lock(who(6), none, fatal(api.FatalNilMutex))
	r.lock(who(5), none, fatal(api.FatalNilMutex))
	r.unlock(none, fatal(api.FatalNilMutex))
}
