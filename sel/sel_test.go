package sel

import (
	"testing"

	"drowse/api"
	"drowse/chans"
	"drowse/waitq"
)

// The rows of the chapter's section 'Examples'.
func TestRows(t *testing.T) {
	r := made(t, 0, 1)
	arms := list(in(ch(1)), out(ch(2), num(4)), in(none))
	r.poll(arms, 1)
	r.poll(nil)
	r.wrongTake(who(5), arms, 0, api.ErrSelArm)
	r.take(who(5), arms, 1, api.Did{})
	r.park(who(5), in(ch(1)), out(ch(2), num(9)))
	r.wrongPark(who(5), nil, api.ErrChansWaits)
	r.recv(who(6), ch(2), got(num(4), sent(who(5), 1)))
	r.waits()
	if n, err := r.c.Len(ch(2)); n != 1 || err != api.OK {
		t.Fatalf("Len: %d, %v", n, err)
	}
	r.wrongPark(who(5), list(in(ch(2))), api.ErrSelReady)
	r.wrongPark(who(5), many(in(ch(2)), 51), api.ErrSelMany)
	r.recv(who(6), ch(2), got(num(9)))
}

// P15.1: without channels or without a book there is none.
func TestNewWrong(t *testing.T) {
	b := waitq.New()
	c, _ := chans.New(b)
	for _, s := range []struct {
		c *chans.Chans
		b *waitq.Book
	}{{nil, b}, {c, nil}, {nil, nil}} {
		if s, err := New(s.c, s.b); s != nil || err != api.ErrArg {
			t.Errorf("New: %v, %v", s, err)
		}
	}
	if b.Count() != 0 || c.Count() != 0 {
		t.Error("New has changed something")
	}
}

// P15.1: it is over these channels and this book, whatever they have, and sees what comes to them later.
func TestNewKeeps(t *testing.T) {
	b := waitq.New()
	c, _ := chans.New(b)
	c.Make(ch(1), 1)
	c.Send(who(5), ch(1), num(3))
	c.Send(who(5), ch(1), num(4))
	s, err := New(c, b)
	if s == nil || err != api.OK || b.Count() != 1 || c.Count() != 1 {
		t.Fatalf("New: %v, %v", s, err)
	}
	r := &rig{t: t, b: b, c: c, s: s}
	arms := list(in(ch(1)), out(ch(1), num(1)))
	r.wrongPark(who(5), arms, api.ErrChansWaits)
	r.poll(arms, 0)
	r.take(who(6), arms, 0, got(num(3), sent(who(5), 0)))
	r.wrongPoll(list(in(ch(2))), api.ErrChansHandle)
	c.Make(ch(2), 0)
	r.poll(list(in(ch(2))))
	c.Drop(ch(2))
	r.wrongPoll(list(in(ch(2))), api.ErrChansHandle)
}

// P15.1: several over the same channels are the same; those over others know nothing of them.
func TestNewSeveral(t *testing.T) {
	one, far := made(t, 0), made(t, 0)
	s, _ := New(one.c, one.b)
	two := &rig{t: t, b: one.b, c: one.c, s: s}
	one.park(who(5), in(ch(1)))
	two.wrongPark(who(5), nil, api.ErrChansWaits)
	two.poll(list(out(ch(1), num(1))), 0)
	far.poll(list(out(ch(1), num(1))))
	far.park(who(5), out(ch(1), num(2)))
	two.take(who(6), list(out(ch(1), num(1))), 0, woke(gets(who(5), 0, num(1))))
	one.waits()
	far.poll(list(in(ch(1))), 0)
}
