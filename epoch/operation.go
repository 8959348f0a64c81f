package epoch

import (
	"coxswain/api"
	"coxswain/cells"
)

// seat is for whom an operation is: a core of an epoch.
type seat struct {
	epoch api.Epoch
	core  int
}

func (p seat) exists() bool { return p.core >= 0 && p.core < p.epoch.Cores }

// pin is the cell of the core's pin.
func (p seat) pin() int { return p.epoch.Pins + p.core }

// state is how far an operation is. Rows are numbered from 1 on, as in the chapter; where no row is next it has ended, and one that no function made has none either.
type state struct {
	made        bool
	next        int
	word        uint64 // what the epoch's cell held
	other, cell int    // the core whose pin is looked at next, and the cell of that
	err         api.Errno
}

// row makes one access, and returns the state that comes after it. It keeps nothing, so that a copy of an operation goes on by itself.
type row func(state, *cells.Mem) state

func begun(p seat) state {
	s := state{made: true, err: api.ErrBusy}
	if !p.exists() {
		return s.end(api.ErrRange)
	}
	return s.then(1)
}

func (s state) then(row int) state {
	s.next = row
	return s
}

func (s state) end(err api.Errno) state {
	s.next, s.err = 0, err
	return s
}

// seen is the epoch that was read.
func (s state) seen() number { return number(s.word) }

// step makes the next step, and reports whether there is none after it.
func (s *state) step(rows []row, m *cells.Mem) bool {
	if s.next != 0 {
		*s = rows[s.next-1](*s, m)
	}
	return s.next == 0
}

func (s state) outcome() api.Errno {
	if !s.made {
		return api.ErrNil
	}
	return s.err
}
