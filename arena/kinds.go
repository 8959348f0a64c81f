package arena

import (
	"coxswain/api"
	"coxswain/cells"
	"coxswain/stack"
	"coxswain/word"
)

// Alloc gives out a node. NewAlloc makes it.
type Alloc struct {
	stack.Pop
	operation[Alloc]
	ref uint64
}

// NewAlloc makes one, whose first steps are those of its pop.
func NewAlloc(a api.Arena) *Alloc {
	return &Alloc{Pop: *stack.NewPop(a.Free), operation: begun[Alloc](a, nil)}
}

// Step makes its next step, and reports whether it has ended.
func (x *Alloc) Step(m *cells.Mem) bool {
	switch {
	case x == nil || x.ended():
		return true
	case x.next != nil:
		x.next(x, m)
	case x.Pop.Step(m):
		x.next = x.popped()
	}
	return x.ended()
}

func (x *Alloc) popped() row[Alloc] {
	if _, err := x.Pop.Index(); err != api.OK {
		return (*Alloc).refuse
	}
	return (*Alloc).name
}

// name need not ask whether the generation changes meanwhile: what was popped is nobody else's until it is freed.
func (x *Alloc) name(m *cells.Mem) {
	i, _ := x.Pop.Index()
	// There is no error to look at: what was popped is an index, and a generation's number has room.
	x.ref, _ = word.PutRef(api.Ref{Index: i, Gen: number(m.Load(gen(x.arena, i)))})
	x.err = api.OK
}

func (x *Alloc) refuse(m *cells.Mem) {
	x.err = api.ErrFull
	if isAll(x.arena, m.Load(x.arena.Worn)) {
		x.err = api.ErrWorn
	}
}

// Ref tells which node it has given out.
func (x *Alloc) Ref() (uint64, api.Errno) {
	if x == nil {
		return 0, api.ErrNil
	}
	return x.ref, x.outcome()
}

// Free takes one back. NewFree makes it.
type Free struct {
	stack.Push
	operation[Free]
	index int
	last  uint64
}

// NewFree makes one, which has ended if the index is not one of the arena: the stack knows for which indices it has places.
func NewFree(a api.Arena, i int) *Free {
	x := &Free{Push: *stack.NewPush(a.Free, i), operation: begun(a, (*Free).look), index: i}
	x.err = x.Push.Err()
	return x
}

// Step makes its next step, and reports whether it has ended.
func (x *Free) Step(m *cells.Mem) bool {
	switch {
	case x == nil || x.ended():
		return true
	case x.next != nil:
		x.next(x, m)
	case x.Push.Step(m):
		x.err = x.Push.Err()
	}
	return x.ended()
}

func (x *Free) look(m *cells.Mem) {
	x.last = m.Load(gen(x.arena, x.index))
	x.next = (*Free).renew
	if isWorn(x.arena, x.last) {
		x.next = (*Free).wear
	}
}

func (x *Free) wear(m *cells.Mem) {
	m.Add(x.arena.Worn, 1)
	x.err = api.OK
}

// renew comes ahead of the push's steps, so that who pops the node finds its new generation.
func (x *Free) renew(m *cells.Mem) {
	next := generations(x.last)
	m.Store(gen(x.arena, x.index), next())
	x.next = nil
}

// Err tells what it came to.
func (x *Free) Err() api.Errno {
	if x == nil {
		return api.ErrNil
	}
	return x.outcome()
}
