package ring

import (
	"coxswain/api"
	"coxswain/cells"
)

// Push lays a value behind the others. NewPush makes it.
type Push struct{ operation }

// NewPush makes one, which has ended if the ring has no slots, or if the value is none for a slot.
func NewPush(r api.Ring, v int) *Push {
	return &Push{begun(operation{ring: r, value: v}, findTail)}
}

// Step makes its next step, and reports whether it has ended.
func (x *Push) Step(m *cells.Mem) bool { return x == nil || x.step(m) }

// Err tells what it came to.
func (x *Push) Err() api.Errno {
	if x == nil {
		return api.ErrNil
	}
	return x.outcome()
}

func findTail(o *operation, m *cells.Mem) {
	o.number = m.Load(o.ring.Tail)
	o.next = lookBehind
}

func lookBehind(o *operation, m *cells.Mem) {
	o.look(m)
	switch vacant := o.vacant(); {
	case o.seen.free(vacant):
		o.next = fill
	case o.seen.kept(vacant):
		o.end(api.ErrFull)
	default:
		o.next = help
	}
}

// fill swaps from the word that was seen, whatever its spare bits are.
func fill(o *operation, m *cells.Mem) {
	o.next = help
	if m.CAS(o.slot(), uint64(o.seen), uint64(o.vacant().with(o.value))) {
		o.next = finish
	}
}

// finish need not know whether it has moved the tail: if it has not, another push has done so.
func finish(o *operation, m *cells.Mem) {
	moveTail(o, m)
	o.end(api.OK)
}

// help lets another push's value count that came first, so that nobody has to wait for that push.
func help(o *operation, m *cells.Mem) {
	moveTail(o, m)
	o.next = findTail
}

func moveTail(o *operation, m *cells.Mem) { m.CAS(o.ring.Tail, o.number, o.number+1) }

// Front tells the first value. NewFront makes it.
type Front struct{ operation }

// NewFront makes one, which has ended if the ring has no slots.
func NewFront(r api.Ring) *Front { return &Front{begun(operation{ring: r}, findHead)} }

// Step makes its next step, and reports whether it has ended.
func (x *Front) Step(m *cells.Mem) bool { return x == nil || x.step(m) }

// Value tells the first value.
func (x *Front) Value() (int, api.Errno) {
	if x == nil {
		return 0, api.ErrNil
	}
	if err := x.outcome(); err != api.OK {
		return 0, err
	}
	return x.value, api.OK
}

// At tells which number the head is, also where there is no value.
func (x *Front) At() uint64 {
	if x == nil {
		return 0
	}
	return x.number
}

func findHead(o *operation, m *cells.Mem) {
	o.number = m.Load(o.ring.Head)
	o.next = lookAhead
}

func lookAhead(o *operation, m *cells.Mem) {
	o.look(m)
	if !o.seen.taken(o.vacant()) {
		o.end(api.ErrNone)
		return
	}
	o.value = o.seen.value()
	o.end(api.OK)
}

// Drop takes the first value away. NewDrop makes it.
type Drop struct{ operation }

// NewDrop makes one, of the number that a Front has told, which has ended if the ring has no slots.
func NewDrop(r api.Ring, h uint64) *Drop {
	return &Drop{begun(operation{ring: r, number: h}, empty)}
}

// Step makes its next step, and reports whether it has ended.
func (x *Drop) Step(m *cells.Mem) bool { return x == nil || x.step(m) }

// Err tells what it came to.
func (x *Drop) Err() api.Errno {
	if x == nil {
		return api.ErrNil
	}
	return x.outcome()
}

// empty is where a drop takes effect: pushes look at the slot, and never at the head.
func empty(o *operation, m *cells.Mem) {
	m.Store(o.slot(), uint64(o.vacant().dropped()))
	o.next = moveHead
}

func moveHead(o *operation, m *cells.Mem) {
	m.Store(o.ring.Head, o.number+1)
	o.end(api.OK)
}
