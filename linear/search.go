package linear

import (
	"iter"
	"slices"

	"coxswain/api"
	"coxswain/event"
)

// finder is a search, whatever the states of its model are made of. Its orders are of the places of calls in their list.
type finder interface {
	orders() iter.Seq[[]int]
	fits(order []int) bool
}

// finderOf returns the search for orders of calls that check accepts.
func finderOf(kind, room int, l []api.Span) finder {
	switch kind {
	case api.ModelFifo:
		return searchOf(fifoModel(room), alike(l))
	case api.ModelHeap:
		return searchOf(heapModel(), l)
	default:
		return searchOf(poolModel(room, l), l)
	}
}

// set is a set of calls, by their places in their list.
type set uint16

func (s set) has(i int) bool { return s>>i&1 == 1 }

func (s set) with(i int) set { return s | 1<<i }

func (s set) holds(other set) bool { return other&^s == 0 }

// search is what does not change while orders are tried.
type search[T comparable] struct {
	model    model[T]
	calls    []api.Span
	ahead    [api.MaxSearch]set
	answered set
}

func searchOf[T comparable](m model[T], l []api.Span) search[T] {
	s := search[T]{model: m, calls: l}
	for i, c := range l {
		if !pending(c) {
			s.answered = s.answered.with(i)
		}
		for j, other := range l {
			// A span that nobody recorded may be ahead of itself, but that rules out only pairs.
			if j != i && event.Ahead(other, c) {
				s.ahead[i] = s.ahead[i].with(j)
			}
		}
	}
	return s
}

// tried is what the rest of an order depends on: which calls are in it, and the state after them.
type tried[T comparable] struct {
	done  set
	state state[T]
}

// orders yields all orders that fit, the least one first. After the same calls several states may be possible, for a pending call may get any free index; they are tried together, so that no choice comes ahead of an order that is less.
func (s search[T]) orders() iter.Seq[[]int] {
	return func(yield func([]int) bool) {
		failed := make(map[tried[T]]struct{})
		found := 0
		var try func(order []int, done set, states []state[T]) bool
		try = func(order []int, done set, states []state[T]) bool {
			before := found
			if done.holds(s.answered) {
				found++
				if !yield(slices.Clone(order)) {
					return false
				}
			}
			for i := range s.calls {
				then := done.with(i)
				next := slices.DeleteFunc(s.after(done, states, i), func(x state[T]) bool {
					_, is := failed[tried[T]{then, x}]
					return is
				})
				if len(next) > 0 && !try(append(order, i), then, next) {
					return false
				}
			}
			if found == before {
				for _, x := range states {
					failed[tried[T]{done, x}] = struct{}{}
				}
			}
			return true
		}
		try(nil, 0, []state[T]{s.model.first})
	}
}

// fits reports whether an order, which has no call twice, fits.
func (s search[T]) fits(order []int) bool {
	done, states := set(0), []state[T]{s.model.first}
	for _, i := range order {
		states = s.after(done, states, i)
		done = done.with(i)
	}
	return len(states) > 0 && done.holds(s.answered)
}

// after returns the states, each once, that are possible when a call follows those that are done: none if it cannot be the next one. Who is ahead of another call was answered, and so has its turn in each order: it must be done.
func (s search[T]) after(done set, states []state[T], i int) []state[T] {
	if done.has(i) || !done.holds(s.ahead[i]) {
		return nil
	}
	var all []state[T]
	for _, x := range states {
		for _, next := range s.model.next(x, s.calls[i]) {
			if !slices.Contains(all, next) {
				all = append(all, next)
			}
		}
	}
	return all
}
