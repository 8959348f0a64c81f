package tower

import (
	"coxswain/api"
	"coxswain/cells"
	"coxswain/word"
)

// holders is how many hold a node that is laid: who inserts it, and who takes it out. The one that lets go of it last knows by this that it is the last.
const holders = 2

// steps is how many steps a Lay has.
const steps = 4

// store makes one access. It keeps nothing, so that a copy of a Lay goes on by itself.
type store func(*cells.Mem)

// Lay writes a node. NewLay makes it.
type Lay struct {
	made    bool
	left    [steps]store // those that were made are nil, as all are where no function made it
	ref, by uint64
	err     api.Errno
}

// NewLay makes one, which has ended if there is no such node, or if that cannot be so.
func NewLay(t api.Tower, ref, key uint64, job, height int) *Lay {
	i, err := laid(t, ref, job, height)
	if err != api.OK {
		return &Lay{made: true, err: err}
	}
	put := func(p int, w uint64) store {
		at := At(t, i, p)
		return func(m *cells.Mem) { m.Store(at, w) }
	}
	return &Lay{made: true, ref: ref, err: api.ErrBusy, left: [steps]store{
		put(api.PartKey, key),
		put(api.PartJob, uint64(job)),
		put(api.PartHigh, uint64(height)),
		put(api.PartHold, holders),
	}}
}

// laid tells which node is to be laid, or why none can be.
func laid(t api.Tower, ref uint64, job, height int) (int, api.Errno) {
	if !sound(t) {
		return none, api.ErrArg
	}
	r, err := word.GetRef(ref)
	switch {
	case err != api.OK:
		return none, err
	case r.Mark || !isNode(t, r.Index):
		return none, api.ErrRange
	case job < 0 || job > api.MaxIndex:
		return none, api.ErrRange
	case height < 1 || height > t.Height:
		return none, api.ErrRange
	}
	return r.Index, api.OK
}

// Step makes its next step, and reports whether it has ended.
func (x *Lay) Step(m *cells.Mem) bool { return x == nil || x.step(m) }

func (x *Lay) step(m *cells.Mem) bool {
	for i, store := range x.left {
		if store == nil {
			continue
		}
		store(m)
		x.left[i], x.by = nil, x.ref
		if i < steps-1 {
			return false
		}
		x.err = api.OK
	}
	return true
}

// By tells by which ref its last access was made.
func (x *Lay) By() uint64 {
	if x == nil {
		return 0
	}
	return x.by
}

// Err tells what it came to.
func (x *Lay) Err() api.Errno {
	switch {
	case x == nil, !x.made:
		return api.ErrNil
	}
	return x.err
}
