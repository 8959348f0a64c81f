package fifo

import "coxswain/api"

// ring is a queue in an array, which goes on at the array's beginning where the array ends. Nothing changes a ring: what follows it is another one, a copy.
type ring[T any] struct {
	cells             [api.MaxRoom]T
	room, first, many int
}

// filled returns a ring of things that its room is enough for.
func filled[T any](room int, l []T) ring[T] {
	r := ring[T]{room: room, many: len(l)}
	copy(r.cells[:], l)
	return r
}

func (r *ring[T]) empty() bool { return r.many == 0 }

func (r *ring[T]) full() bool { return r.many == r.room }

// place returns where the n-th one is, the first one being the 0th.
func (r *ring[T]) place(n int) int { return (r.first + n) % len(r.cells) }

func (r *ring[T]) front() T { return r.cells[r.place(0)] }

// with returns the ring that has one more, where this one is not full.
func (r ring[T]) with(x T) ring[T] {
	r.cells[r.place(r.many)] = x
	r.many++
	return r
}

// without returns the ring that lacks the first one, where this one is not empty.
func (r ring[T]) without() ring[T] {
	r.first = r.place(1)
	r.many--
	return r
}

func (r *ring[T]) list() []T {
	l := make([]T, r.many)
	for n := range l {
		l[n] = r.cells[r.place(n)]
	}
	return l
}
