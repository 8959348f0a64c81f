package epoch

import (
	"coxswain/api"
	"coxswain/cells"
)

// Pin pins a core. NewPin makes it.
type Pin struct {
	rows [3]row
	state
}

// NewPin makes one, which has ended if there is no such core.
func NewPin(e api.Epoch, c int) *Pin {
	p := seat{e, c}
	return &Pin{[3]row{p.find, p.hold, p.check}, begun(p)}
}

// Step makes its next step, and reports whether it has ended.
func (x *Pin) Step(m *cells.Mem) bool { return x == nil || x.step(x.rows[:], m) }

func (p seat) find(s state, m *cells.Mem) state {
	s.word = m.Load(p.epoch.At)
	return s.then(2)
}

func (p seat) hold(s state, m *cells.Mem) state {
	m.Store(p.pin(), s.seen().following())
	return s.then(3)
}

// check sees to it that nobody went on ahead of the pin without having seen it.
func (p seat) check(s state, m *cells.Mem) state {
	was := s.seen()
	if s = p.find(s, m); s.seen() != was {
		return s
	}
	return s.end(api.OK)
}

// At tells at which epoch the core is pinned.
func (x *Pin) At() (int, api.Errno) {
	if x == nil {
		return 0, api.ErrNil
	}
	if err := x.outcome(); err != api.OK {
		return 0, err
	}
	return int(x.seen()), api.OK
}

// Unpin takes a core's pin back. NewUnpin makes it.
type Unpin struct {
	rows [1]row
	state
}

// NewUnpin makes one, which has ended if there is no such core.
func NewUnpin(e api.Epoch, c int) *Unpin {
	p := seat{e, c}
	return &Unpin{[1]row{p.leave}, begun(p)}
}

// Step makes its next step, and reports whether it has ended.
func (x *Unpin) Step(m *cells.Mem) bool { return x == nil || x.step(x.rows[:], m) }

func (p seat) leave(s state, m *cells.Mem) state {
	m.Store(p.pin(), 0)
	return s.end(api.OK)
}

// Err tells what it came to.
func (x *Unpin) Err() api.Errno {
	if x == nil {
		return api.ErrNil
	}
	return x.outcome()
}

// Advance goes on by an epoch. NewAdvance makes it.
type Advance struct {
	rows [3]row
	state
}

// NewAdvance makes one, which has ended if there is no such core.
func NewAdvance(e api.Epoch, c, p int) *Advance {
	a := advancer{seat{e, c}, p}
	return &Advance{[3]row{a.look, a.ask, a.move}, begun(a.seat)}
}

// advancer is who advances: a core that is pinned at an epoch of its own.
type advancer struct {
	seat
	own int
}

// Step makes its next step, and reports whether it has ended.
func (x *Advance) Step(m *cells.Mem) bool { return x == nil || x.step(x.rows[:], m) }

// look keeps the whole word, for the swap must fail if anybody else has written meanwhile. What is held against it is no number: the own epoch may be out of the range of numbers, and is then none.
func (a advancer) look(s state, m *cells.Mem) state {
	s.word = m.Load(a.epoch.At)
	if int(s.seen()) != a.own {
		return s.end(api.ErrBusy)
	}
	return a.seek(s, 0)
}

func (a advancer) ask(s state, m *cells.Mem) state {
	if pin := m.Load(s.cell); pin != 0 && pin != s.seen().following() {
		return s.end(api.ErrBusy)
	}
	return a.seek(s, s.other+1)
}

// seek settles whose pin is looked at next, from a core on; behind the last one comes the swap.
func (a advancer) seek(s state, from int) state {
	for c, cell := range pins(a.epoch, from) {
		if c != a.core {
			s.other, s.cell = c, cell
			return s.then(2)
		}
	}
	return s.then(3)
}

func (a advancer) move(s state, m *cells.Mem) state {
	if !m.CAS(a.epoch.At, s.word, s.seen().following()) {
		return s.end(api.ErrBusy)
	}
	return s.end(api.OK)
}

// Err tells what it came to; that it was refused is told like that it has not ended.
func (x *Advance) Err() api.Errno {
	if x == nil {
		return api.ErrNil
	}
	return x.outcome()
}
