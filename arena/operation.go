package arena

import (
	"coxswain/api"
	"coxswain/cells"
)

// row is a step of operations of one kind: it makes one access, and settles which row is next.
type row[X any] func(*X, *cells.Mem)

// operation is what operations of both kinds have: their arena, their next row, and what they came to. There is no next row while the steps are those of the stack. It has ended when its error is another one than ErrBusy.
type operation[X any] struct {
	made  bool
	arena api.Arena
	next  row[X]
	err   api.Errno
}

func begun[X any](a api.Arena, first row[X]) operation[X] {
	return operation[X]{made: true, arena: a, next: first, err: api.ErrBusy}
}

// ended holds for one that no function made, too.
func (o *operation[X]) ended() bool { return o.outcome() != api.ErrBusy }

func (o *operation[X]) outcome() api.Errno {
	if !o.made {
		return api.ErrNil
	}
	return o.err
}
