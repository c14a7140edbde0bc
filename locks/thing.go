package locks

import "drowse/api"

// thing is a mutex or a wait group: what somebody asks for and, if need be, waits for.
type thing interface {
	// enter lets g have what it asks for; false, and nothing has changed: g must wait.
	enter(g api.Handle) bool
	// queue is in which row one waits for it, if h is its handle.
	queue(h api.Handle) api.Row
}

// mutex is free, if its holder is none.
type mutex struct{ holder api.Handle }

// group is a wait group; its counter is 0 to MaxCount.
type group struct{ counter int64 }

// fresh is a new one of a kind, or nil, if there are none of that kind here.
func fresh(kind api.Kind) thing {
	switch kind {
	case api.KindMutex:
		return &mutex{}
	case api.KindGroup:
		return &group{}
	}
	return nil
}

// kindOf is the kind of a thing; of nil 0.
func kindOf(x thing) api.Kind {
	switch x.(type) {
	case *mutex:
		return api.KindMutex
	case *group:
		return api.KindGroup
	}
	return 0
}

// fateOfNone is what comes of who asks for one of a kind at none.
func fateOfNone(kind api.Kind) api.Fate {
	if kind == api.KindMutex {
		return api.FatalNilMutex
	}
	return api.FatalNilGroup
}

// lockers is the row of those who want a mutex.
func lockers(h api.Handle) api.Row { return api.Row{Of: h, Side: api.SideLock} }

// joiners is the row of those who wait for a wait group.
func joiners(h api.Handle) api.Row { return api.Row{Of: h, Side: api.SideJoin} }

func (m *mutex) enter(g api.Handle) bool {
	if !isNone(m.holder) {
		return false
	}
	m.holder = g
	return true
}

func (m *mutex) queue(h api.Handle) api.Row { return lockers(h) }

func (w *group) enter(api.Handle) bool { return w.counter == 0 }

func (w *group) queue(h api.Handle) api.Row { return joiners(h) }

// hasRoom tells whether the counter and n together are a counter. The sum itself might not fit in an int64, so it is not made.
func (w *group) hasRoom(n int64) bool {
	return n >= -w.counter && n <= api.MaxCount-w.counter
}
