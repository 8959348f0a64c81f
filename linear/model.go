package linear

import (
	"slices"

	"coxswain/api"
	"coxswain/fifo"
	"coxswain/heap"
	"coxswain/pool"
)

// state is a list as a value, so that a map can have it in its keys. No list is longer: a call adds no more than one thing to it, and poolModel leaves no more in the first one than there are calls.
type state[T comparable] struct {
	many   int
	things [api.MaxSearch]T
}

func stateOf[T comparable](l []T) state[T] {
	s := state[T]{many: len(l)}
	copy(s.things[:], l)
	return s
}

func (s state[T]) list() []T { return s.things[:s.many] }

// model is a sequential model: the state with which it begins, and what may follow a state by a call that is answered as it was, or, if it is pending, as it may be with OK.
type model[T comparable] struct {
	first state[T]
	next  func(state[T], api.Span) []state[T]
}

// modelOf makes a model of two funcs of its layer: which answers there may be, and which list follows an answer.
func modelOf[T comparable](first []T, may func([]T, api.Op) []api.Ans, after func([]T, api.Op, api.Ans) ([]T, bool)) model[T] {
	next := func(s state[T], c api.Span) []state[T] {
		answers := []api.Ans{c.Ans}
		if pending(c) {
			answers = slices.DeleteFunc(may(s.list(), c.Op), refused)
		}
		var l []state[T]
		for _, ans := range answers {
			if things, is := after(s.list(), c.Op, ans); is {
				l = append(l, stateOf(things))
			}
		}
		return l
	}
	return model[T]{first: stateOf(first), next: next}
}

func refused(ans api.Ans) bool { return ans.Err != api.OK }

// only returns the answers of a model that has no more than one.
func only(ans api.Ans, has bool) []api.Ans {
	if !has {
		return nil
	}
	return []api.Ans{ans}
}

func fifoModel(room int) model[uint64] {
	may := func(s []uint64, op api.Op) []api.Ans { return only(fifo.Answer(room, s, op)) }
	after := func(s []uint64, op api.Op, ans api.Ans) ([]uint64, bool) { return fifo.Next(room, s, op, ans) }
	return modelOf(nil, may, after)
}

func heapModel() model[api.Item] {
	may := func(s []api.Item, op api.Op) []api.Ans { return only(heap.Answer(s, op)) }
	return modelOf(nil, may, heap.Next)
}

// poolModel begins with fewer indices than are free: only pending calls can get those that no call names, one each, and which of these they get nobody can tell.
func poolModel(room int, l []api.Span) model[int] {
	unnamed := pool.Rest(named(l), room)
	spare := unnamed[min(pendingAllocs(l), len(unnamed)):]
	return modelOf(pool.Rest(spare, room), pool.All, pool.Next)
}

// named returns the indices that calls tell: those that were given out, and those that are freed.
func named(l []api.Span) []int {
	var all []int
	for _, c := range l {
		switch {
		case c.Op.Kind == api.OpAlloc && !pending(c):
			all = append(all, c.Ans.N)
		case c.Op.Kind == api.OpFree:
			all = append(all, c.Op.A)
		}
	}
	return all
}

// alike returns the calls with one word in place of all those that no front was told to be: nobody can tell these from each other, and so pushes of them that change places are not tried again.
func alike(l []api.Span) []api.Span {
	told := fronts(l)
	var other uint64
	for slices.Contains(told, other) {
		other++
	}
	calls := slices.Clone(l)
	for i, c := range calls {
		if c.Op.Kind == api.OpPush && !slices.Contains(told, c.Op.W) {
			calls[i].Op.W = other
		}
	}
	return calls
}

// fronts returns the words that fronts were told to be.
func fronts(l []api.Span) []uint64 {
	var told []uint64
	for _, c := range l {
		if c.Op.Kind == api.OpFront && !pending(c) {
			told = append(told, c.Ans.W)
		}
	}
	return told
}
