package stack

import (
	"coxswain/api"
	"coxswain/cells"
)

// Pop takes the first one. NewPop makes it.
type Pop struct{ operation[Pop] }

// NewPop makes one.
func NewPop(s api.Stack) *Pop { return &Pop{begun(s, (*Pop).find)} }

// Step makes its next step, and reports whether it has ended.
func (x *Pop) Step(m *cells.Mem) bool { return x == nil || x.step(x, m) }

func (x *Pop) find(m *cells.Mem) { x.loadFirst(m, (*Pop).look) }

func (x *Pop) look(m *cells.Mem) {
	x.link = m.Load(link(x.stack, x.first()))
	x.next = (*Pop).take
}

func (x *Pop) take(m *cells.Mem) { x.swap(m, read(x.stack, x.link), (*Pop).find) }

// Index tells what it has taken.
func (x *Pop) Index() (int, api.Errno) {
	if x == nil {
		return 0, api.ErrNil
	}
	return x.taken()
}

// Push lays one on top. NewPush makes it.
type Push struct {
	operation[Push]
	index int
}

// NewPush makes one, which has ended if the index is not a place of the stack.
func NewPush(s api.Stack, i int) *Push {
	x := &Push{begun(s, (*Push).find), i}
	if !place(s, i) {
		x.end(api.ErrRange)
	}
	return x
}

// Step makes its next step, and reports whether it has ended.
func (x *Push) Step(m *cells.Mem) bool { return x == nil || x.step(x, m) }

func (x *Push) find(m *cells.Mem) { x.loadTop(m, (*Push).tie) }

func (x *Push) tie(m *cells.Mem) {
	m.Store(link(x.stack, x.index), untagged(x.first()))
	x.next = (*Push).lay
}

func (x *Push) lay(m *cells.Mem) { x.swap(m, x.index, (*Push).find) }

// Err tells what it came to.
func (x *Push) Err() api.Errno {
	if x == nil {
		return api.ErrNil
	}
	return x.outcome()
}

// All takes all. NewAll makes it.
type All struct{ operation[All] }

// NewAll makes one.
func NewAll(s api.Stack) *All { return &All{begun(s, (*All).find)} }

// Step makes its next step, and reports whether it has ended.
func (x *All) Step(m *cells.Mem) bool { return x == nil || x.step(x, m) }

func (x *All) find(m *cells.Mem) { x.loadFirst(m, (*All).take) }

func (x *All) take(m *cells.Mem) { x.swap(m, none, (*All).find) }

// Index tells the first one that it has taken; the others follow by their links.
func (x *All) Index() (int, api.Errno) {
	if x == nil {
		return 0, api.ErrNil
	}
	return x.taken()
}
