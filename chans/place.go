package chans

import (
	"drowse/api"
	"drowse/waitq"
)

// place is where somebody can wait: a part of each channel, and all there is of none.
type place struct {
	book *waitq.Book
	of   api.Handle
}

// row is who waits at a side.
func (p place) row(side api.Side) api.Row { return api.Row{Of: p.of, Side: side} }

// first is the first wait at a side. It is always asked anew: others put waits there, too, and take them out.
func (p place) first(side api.Side) (api.Record, bool) { return p.book.First(p.row(side)) }

// has tells whether somebody waits at a side.
func (p place) has(side api.Side) bool {
	_, waits := p.first(side)
	return waits
}

// all is the waits at a side, in order.
func (p place) all(side api.Side) []api.Record { return p.book.Row(p.row(side)) }

// park lets g, which has no wait, wait at a side.
func (p place) park(side api.Side, g api.Handle, v api.Value) api.Did {
	p.book.Put(p.row(side), g, 0, v)
	return api.Did{Fate: api.Parked}
}

// wake ends all waits of r's Who, which comes back with got for the arm of r.
func (p place) wake(r api.Record, got api.Got) api.Wake {
	p.book.Leave(r.Who)
	got.Arm = r.Arm
	return api.Wake{Who: r.Who, Got: got}
}

// wakeAll wakes all who wait at a side. One may have several waits there, which leave together: so the first one left is woken, not one wait behind another.
func (p place) wakeAll(side api.Side, got api.Got) []api.Wake {
	var woken []api.Wake
	for r, waits := p.first(side); waits; r, waits = p.first(side) {
		woken = append(woken, p.wake(r, got))
	}
	return woken
}
