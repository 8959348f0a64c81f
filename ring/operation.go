package ring

import (
	"coxswain/api"
	"coxswain/cells"
)

// row makes one access for an operation, and sets its next row. What it needs it finds in the operation that it is given, so that a copy of one goes on by itself.
type row func(*operation, *cells.Mem)

// operation is what operations of each kind have. After the last step there is no next row; one that no function made has none either.
type operation struct {
	made   bool
	next   row
	ring   api.Ring
	number uint64 // what was loaded from the head or the tail, or what a drop was told
	seen   slot   // what was loaded from the number's slot
	value  int    // what is pushed, or was in front
	err    api.Errno
}

// begun makes an operation begin, unless it can have none of its steps.
func begun(o operation, first row) operation {
	o.made, o.next, o.err = true, first, api.ErrBusy
	switch {
	case !sized(o.ring):
		o.end(api.ErrArg)
	case o.value < 0 || o.value > api.MaxValue:
		o.end(api.ErrRange)
	}
	return o
}

// step makes the next step, and reports whether there is none after it.
func (o *operation) step(m *cells.Mem) bool {
	if o.next != nil {
		o.next(o, m)
	}
	return o.next == nil
}

func (o *operation) end(err api.Errno) { o.next, o.err = nil, err }

func (o *operation) outcome() api.Errno {
	if !o.made {
		return api.ErrNil
	}
	return o.err
}

// slot is the cell of the number's slot.
func (o *operation) slot() int { return cell(o.ring, o.number) }

// vacant is what the number's slot is before that has a value.
func (o *operation) vacant() slot { return vacant(o.ring, o.number) }

func (o *operation) look(m *cells.Mem) { o.seen = slot(m.Load(o.slot())) }
