package frame

import "iter"

// table is things by their numbers, from 0 on. Past its length there is none.
type table[T any] struct{ things []T }

func newTable[T any](length int) table[T] { return table[T]{make([]T, length)} }

// at returns the thing that has this number, so that it can be changed in its place, or nil if there is none.
func (t table[T]) at(n int) *T {
	if n < 0 || n >= len(t.things) {
		return nil
	}
	return &t.things[n]
}

// those yields the things that have a property, with their numbers, which rise.
func (t table[T]) those(has func(*T) bool) iter.Seq2[int, *T] {
	return func(yield func(int, *T) bool) {
		for n := range t.things {
			thing := t.at(n)
			if has(thing) && !yield(n, thing) {
				return
			}
		}
	}
}
