package stack

import (
	"coxswain/api"
	"coxswain/cells"
)

// row is a step of operations of one kind: it makes one access, and settles which row is next.
type row[X any] func(*X, *cells.Mem)

// operation is what operations of each kind have: their stack, the words that they have loaded, their next step, and what they came to. After the last step there is no next one; one that no function made has none either.
type operation[X any] struct {
	made      bool
	stack     api.Stack
	top, link uint64
	next      row[X]
	err       api.Errno
}

func begun[X any](s api.Stack, first row[X]) operation[X] {
	return operation[X]{made: true, stack: s, next: first, err: api.ErrBusy}
}

// step makes the next step of x, which is the operation as its own kind knows it.
func (o *operation[X]) step(x *X, m *cells.Mem) bool {
	if o.next != nil {
		o.next(x, m)
	}
	return o.next == nil
}

func (o *operation[X]) end(err api.Errno) { o.next, o.err = nil, err }

func (o *operation[X]) loadTop(m *cells.Mem, then row[X]) {
	o.top = m.Load(o.stack.Top)
	o.next = then
}

// loadFirst is for those that end when there is nothing to take.
func (o *operation[X]) loadFirst(m *cells.Mem, then row[X]) {
	o.loadTop(m, then)
	if o.first() == none {
		o.end(api.ErrNone)
	}
}

// first is the index that was on top.
func (o *operation[X]) first() int { return read(o.stack, o.top) }

// swap brings an index to the top and ends, or begins anew if somebody has changed the top since it was loaded.
func (o *operation[X]) swap(m *cells.Mem, i int, anew row[X]) {
	o.next = anew
	if m.CAS(o.stack.Top, o.top, following(o.top, i)) {
		o.end(api.OK)
	}
}

func (o *operation[X]) outcome() api.Errno {
	if !o.made {
		return api.ErrNil
	}
	return o.err
}

// taken is the outcome of those that take what was on top.
func (o *operation[X]) taken() (int, api.Errno) {
	if err := o.outcome(); err != api.OK {
		return 0, err
	}
	return o.first(), api.OK
}
