package limbo

import (
	"coxswain/api"
	"coxswain/cells"
)

// row is the next step of an operation: it makes one access, and returns the row that comes after it, none when the operation has ended, and what it has come to. It is a method of a value that it does not change, so that a copy of an operation goes on by itself.
type row func(*cells.Mem) (row, outcome)

// outcome is what an operation came to: how many nodes it freed, and its error, which is ErrBusy while it is under way.
type outcome struct {
	many int
	err  api.Errno
}

func then(next row) (row, outcome) { return next, outcome{err: api.ErrBusy} }

func end(many int, err api.Errno) (row, outcome) { return nil, outcome{many, err} }

// operation is what operations of both kinds have. One that no function made has no next row either.
type operation struct {
	made bool
	next row
	came outcome
}

// begun makes one whose error is ErrBusy, or which has ended at once.
func begun(first row, err api.Errno) operation {
	if err != api.ErrBusy {
		first = nil
	}
	return operation{true, first, outcome{err: err}}
}

// step makes the next step, and reports whether there is none after it.
func (o *operation) step(m *cells.Mem) bool {
	if o.next != nil {
		o.next, o.came = o.next(m)
	}
	return o.next == nil
}

func (o *operation) outcome() outcome {
	if !o.made {
		return outcome{err: api.ErrNil}
	}
	return o.came
}
