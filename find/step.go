package find

import (
	"iter"

	"coxswain/api"
	"coxswain/cells"
	"coxswain/tower"
	"coxswain/word"
)

// down yields the levels from the top, each with the position from which it is entered: the top one from the head, the other ones from where the one above them was done.
func (x *Find) down() iter.Seq2[int, position] {
	return func(yield func(int, position) bool) {
		from := position{pred: head}
		for l := x.tower.Height - 1; l >= 0 && yield(l, from); l-- {
			from = x.at[l]
		}
	}
}

// step makes the next step, which is one on the first level from the top that is not done. One that has ended, or that no function made, has no such level.
func (x *Find) step(m *cells.Mem) bool {
levels:
	for l, from := range x.down() {
		switch x.at[l].next {
		case done:
			continue levels
		case enter:
			x.enter(l, from, m)
		case look:
			x.look(l, m)
		case cut:
			x.cut(l, m)
		case compare:
			x.compare(l, m)
		}
		return x.ended()
	}
	return true
}

func (x *Find) ended() bool {
	if x.at[0].next != done {
		return false
	}
	x.err = api.OK
	return true
}

// restart forgets all levels: whoever has changed something may have taken off any of the preds.
func (x *Find) restart() { x.at = [api.MaxTower]position{} }

// enter does not go on from a pred that is marked: that one is being taken off, and what is behind it may be off the level already.
func (x *Find) enter(l int, from position, m *cells.Mem) {
	x.by = from.known
	w := m.Load(tower.Next(x.tower, from.pred, l))
	if word.Marked(w) {
		x.restart()
		return
	}
	x.at[l] = x.facing(from, w)
}

// facing is a position from which a word is seen: there is nothing left to do on the level if this is none.
func (x *Find) facing(p position, w uint64) position {
	p.cur, p.next = w, look
	if read(x.tower, w) == none {
		p.next = done
	}
	return p
}

func (x *Find) look(l int, m *cells.Mem) {
	p := &x.at[l]
	x.by = p.cur
	p.link, p.next = m.Load(tower.Next(x.tower, read(x.tower, p.cur), l)), compare
	if word.Marked(p.link) {
		p.next = cut
	}
}

// cut takes a marked node off the level. It fails where the pred has become marked, or has something else behind it.
func (x *Find) cut(l int, m *cells.Mem) {
	p := x.at[l]
	x.by = p.known
	behind := word.Marks(p.link, false)
	if !m.CAS(tower.Next(x.tower, p.pred, l), p.cur, behind) {
		x.restart()
		return
	}
	x.at[l] = x.facing(p, behind)
}

func (x *Find) compare(l int, m *cells.Mem) {
	p := x.at[l]
	x.by = p.cur
	i := read(x.tower, p.cur)
	if m.Load(tower.At(x.tower, i, api.PartKey)) >= x.key {
		x.at[l].next = done
		return
	}
	p.pred, p.known = i, p.cur
	x.at[l] = x.facing(p, p.link)
}
