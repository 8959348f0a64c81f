package limbo

import (
	"coxswain/api"
	"coxswain/arena"
	"coxswain/cells"
	"coxswain/epoch"
	"coxswain/stack"
)

// Retire lets a node wait. NewRetire makes it.
type Retire struct{ operation }

// NewRetire makes one, which has ended if the index is not one of the arena: the arena knows which nodes it would take back.
func NewRetire(l api.Limbo, i int) *Retire {
	return &Retire{begun(dating{l, i}.date, arena.NewFree(l.A, i).Err())}
}

// Step makes its next step, and reports whether it has ended.
func (x *Retire) Step(m *cells.Mem) bool { return x == nil || x.step(m) }

// Err tells what it came to.
func (x *Retire) Err() api.Errno {
	if x == nil {
		return api.ErrNil
	}
	return x.outcome().err
}

// dating finds out at which epoch a node is retired.
type dating struct {
	limbo api.Limbo
	index int
}

// date need not ask again whether the epoch is the same: who retires is pinned, and nobody goes on by more than one epoch meanwhile.
func (d dating) date(m *cells.Mem) (row, outcome) {
	e := number(uint32(m.Load(d.limbo.E.At)))
	return then(laying{*stack.NewPush(e.waiting(d.limbo), d.index)}.lay)
}

// laying lays a node on its waiting stack.
type laying struct{ stack.Push }

func (l laying) lay(m *cells.Mem) (row, outcome) {
	if !l.Step(m) {
		return then(l.lay)
	}
	return end(0, l.Err())
}

// Collect goes on by an epoch, and frees those that waited. NewCollect makes it.
type Collect struct{ operation }

// NewCollect makes one, which has ended if there is no such core, or if nobody can be pinned at p.
func NewCollect(l api.Limbo, c, p int) *Collect {
	x := epoch.NewAdvance(l.E, c, p)
	err := x.Err()
	if p < 0 {
		err = api.ErrRange
	}
	return &Collect{begun(advancing{*x, l, number(p)}.advance, err)}
}

// Step makes its next step, and reports whether it has ended.
func (x *Collect) Step(m *cells.Mem) bool { return x == nil || x.step(m) }

// Many tells how many it has freed; that its advance was refused is told like that it has not ended.
func (x *Collect) Many() (int, api.Errno) {
	if x == nil {
		return 0, api.ErrNil
	}
	o := x.outcome()
	return o.many, o.err
}

// advancing goes on by an epoch, from the one at which the core is pinned.
type advancing struct {
	epoch.Advance
	limbo api.Limbo
	own   number
}

// advance turns to those that were retired at the epoch before the own one; own + 2 has the same stack, and is not below 0.
func (a advancing) advance(m *cells.Mem) (row, outcome) {
	if !a.Step(m) {
		return then(a.advance)
	}
	if err := a.Err(); err != api.OK {
		return end(0, err)
	}
	waiting := (a.own + 2).waiting(a.limbo)
	return then(taking{*stack.NewAll(waiting), a.limbo}.take)
}

// taking takes all that wait on a stack.
type taking struct {
	stack.All
	limbo api.Limbo
}

func (t taking) take(m *cells.Mem) (row, outcome) {
	if !t.Step(m) {
		return then(t.take)
	}
	first, err := t.Index()
	if err != api.OK {
		return end(0, api.OK)
	}
	return then(visiting(t.limbo, first, 1).look)
}

// visit is what is done about one of the nodes that were taken: the one behind it is found, and it is freed.
type visit struct {
	arena.Free
	limbo         api.Limbo
	index, behind int
	many          int // which one it is, from 1 on
}

func visiting(l api.Limbo, i, many int) visit {
	return visit{Free: *arena.NewFree(l.A, i), limbo: l, index: i, many: many}
}

// look comes ahead of the Free's steps, for these write the link.
func (v visit) look(m *cells.Mem) (row, outcome) {
	v.behind = read(v.limbo, m.Load(link(v.limbo, v.index)))
	return then(v.giveBack)
}

// giveBack turns to no more nodes than there are: where others have written links, these may lead back.
func (v visit) giveBack(m *cells.Mem) (row, outcome) {
	if !v.Step(m) {
		return then(v.giveBack)
	}
	if v.behind == none || v.many == v.limbo.A.Free.Size {
		return end(v.many, api.OK)
	}
	return then(visiting(v.limbo, v.behind, v.many+1).look)
}
