package heap

import (
	"math/rand"
	"testing"

	"drowse/api"
)

// model is a heap as the chapter says it, by a list of all objects that were ever made.
type model struct {
	most int
	made []object
}

// object is one that was made.
type object struct {
	x     api.Handle
	kind  api.Kind
	lives bool
	leads []api.Handle
}

// find is the object that has a handle, or nil.
func (m *model) find(x api.Handle) *object {
	for i := range m.made {
		if o := &m.made[i]; o.x == x && o.lives {
			return o
		}
	}
	return nil
}

// all is the objects that there are, slot by slot.
func (m *model) all() (list []api.Handle) {
	for slot := uint32(1); slot <= uint32(m.most); slot++ {
		for _, o := range m.made {
			if o.lives && o.x.Slot == slot {
				list = append(list, o.x)
			}
		}
	}
	return list
}

// next is the handle that the next Make gives, or none if there is no room.
func (m *model) next() api.Handle {
	for slot := uint32(1); slot <= uint32(m.most); slot++ {
		gen, used := uint32(1), false
		for _, o := range m.made {
			if o.x.Slot == slot {
				gen++
				used = used || o.lives
			}
		}
		if !used {
			return hd(slot, gen)
		}
	}
	return api.Handle{}
}

// split is the objects that can be come to, and those that can't: as long as one more is found it is looked for again.
func (m *model) split(roots []api.Handle) (stay, lost []api.Handle) {
	come := map[api.Handle]bool{}
	for _, x := range roots {
		come[x] = m.find(x) != nil
	}
	for more := true; more; {
		more = false
		for _, o := range m.made {
			if !o.lives || !come[o.x] {
				continue
			}
			for _, x := range o.leads {
				if m.find(x) != nil && !come[x] {
					come[x], more = true, true
				}
			}
		}
	}
	for _, x := range m.all() {
		if come[x] {
			stay = append(stay, x)
		} else {
			lost = append(lost, x)
		}
	}
	return stay, lost
}

// graph is where the objects lead that there are; what they lead to may live no more.
func (m *model) graph() graph {
	g := graph{}
	for _, o := range m.made {
		g[o.x] = o.leads
	}
	return g
}

// anyHandle is one that lives, one that lived, or one near those.
func (m *model) anyHandle(r *rand.Rand) api.Handle {
	if len(m.made) == 0 || r.Intn(8) == 0 {
		return hd(uint32(r.Intn(m.most+3)), uint32(r.Intn(4)))
	}
	x := m.made[r.Intn(len(m.made))].x
	if living := m.all(); len(living) > 0 && r.Intn(3) > 0 {
		x = living[r.Intn(len(living))]
	}
	switch r.Intn(16) {
	case 0:
		x.Gen++
	case 1:
		x.Gen--
	case 2:
		x.Slot++
	case 3:
		x.Slot--
	}
	return x
}

// anyHandles is up to so many of them.
func (m *model) anyHandles(r *rand.Rand, most int) (list []api.Handle) {
	for range r.Intn(most + 1) {
		list = append(list, m.anyHandle(r))
	}
	return list
}

// stepMake makes an object in both, of a kind that may be wrong.
func stepMake(t *testing.T, r *rand.Rand, h *Heap, m *model) {
	t.Helper()
	kind := api.Kind(1 + r.Intn(3))
	if r.Intn(10) == 0 {
		kind = api.Kind(r.Intn(8) - 2)
	}
	x, want := m.next(), api.OK
	switch {
	case kind < 1 || kind > 3:
		x, want = api.Handle{}, api.ErrHeapKind
	case x == api.Handle{}:
		want = api.ErrHeapFull
	default:
		m.made = append(m.made, object{x: x, kind: kind, lives: true})
	}
	if got, err := h.Make(kind); got != x || err != want {
		t.Fatalf("Make(%d): %v, %v; want %v, %v", kind, got, err, x, want)
	}
}

// stepLead lets an object lead elsewhere.
func stepLead(r *rand.Rand, m *model) {
	if living := m.all(); len(living) > 0 {
		m.find(living[r.Intn(len(living))]).leads = m.anyHandles(r, 3)
	}
}

// stepReach asks both what can be come to.
func stepReach(t *testing.T, r *rand.Rand, h *Heap, m *model) {
	t.Helper()
	roots := m.anyHandles(r, 4)
	stay, _ := m.split(roots)
	reaches(t, h, m.most, m.graph(), roots, stay...)
}

// stepCollect collects in both.
func stepCollect(t *testing.T, r *rand.Rand, h *Heap, m *model) {
	t.Helper()
	roots := m.anyHandles(r, m.most)
	stay, lost := m.split(roots)
	collects(t, h, m.most, m.graph(), roots, lost...)
	for _, x := range lost {
		m.find(x).lives = false
	}
	same(t, "All behind Collect", h.All(), stay)
}

// stepAsk asks both of a handle.
func stepAsk(t *testing.T, r *rand.Rand, h *Heap, m *model) {
	t.Helper()
	x := m.anyHandle(r)
	if o := m.find(x); o != nil {
		lives(t, h, x, o.kind)
	} else {
		gone(t, h, x)
	}
}

// step does one call by chance on both.
func step(t *testing.T, r *rand.Rand, h *Heap, m *model) {
	t.Helper()
	switch n := r.Intn(20); {
	case n < 8:
		stepMake(t, r, h, m)
	case n < 13:
		stepLead(r, m)
	case n < 16:
		stepReach(t, r, h, m)
	case n < 17:
		stepCollect(t, r, h, m)
	default:
		stepAsk(t, r, h, m)
	}
}

// P13.1 to P13.4 by calls in orders by chance: what a heap tells is what the model says behind each call.
func TestByChance(t *testing.T) {
	for seed := range int64(300) {
		r := rand.New(rand.NewSource(seed))
		most := 1 + r.Intn(12)
		h, m := made(t, most), &model{most: most}
		for range 150 {
			step(t, r, h, m)
			holds(t, h, most, m.all()...)
		}
		for _, o := range m.made {
			if o.lives {
				lives(t, h, o.x, o.kind)
			} else {
				gone(t, h, o.x)
			}
		}
	}
}

// P13.3, P13.4 by chance on the greatest heap, with few roads between the objects and with many.
func TestGreatestByChance(t *testing.T) {
	for seed := range int64(12) {
		r := rand.New(rand.NewSource(seed))
		h, m := made(t, api.MaxObjects), &model{most: api.MaxObjects}
		for range api.MaxObjects {
			x := m.next()
			makes(t, h, api.KindChan, x)
			m.made = append(m.made, object{x: x, kind: api.KindChan, lives: true})
		}
		for i := range m.made {
			for range r.Intn(int(seed)/3 + 2) {
				m.made[i].leads = append(m.made[i].leads, hd(uint32(1+r.Intn(api.MaxObjects)), 1))
			}
		}
		roots := m.anyHandles(r, 20)
		stay, lost := m.split(roots)
		reaches(t, h, m.most, m.graph(), roots, stay...)
		collects(t, h, m.most, m.graph(), roots, lost...)
	}
}

// P2: the same calls are answered the same.
func TestAgain(t *testing.T) {
	play := func() (out []api.Handle) {
		r := rand.New(rand.NewSource(5))
		h, m := made(t, 9), &model{most: 9}
		for range 300 {
			step(t, r, h, m)
			out = append(out, h.All()...)
			out = append(out, h.Reach(m.anyHandles(r, 3), m.graph().tell)...)
		}
		return out
	}
	same(t, "again", play(), play())
}
