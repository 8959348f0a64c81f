package pool

import (
	"iter"
	"math/bits"

	"coxswain/api"
)

// indices is a set of indices, a bit each. Nothing changes it but in a copy.
type indices [api.MaxPool / bitsEach]uint64

const bitsEach = 64

// these returns the set of the indices of a list.
func these(l []int) indices {
	var s indices
	for _, i := range l {
		s = s.with(i)
	}
	return s
}

// below returns the set of the first n indices.
func below(n int) indices {
	var s indices
	for i := range n {
		s = s.with(i)
	}
	return s
}

// bit returns the bit of an index in its word.
func bit(i int) uint64 { return 1 << (i % bitsEach) }

func (s indices) has(i int) bool { return s[i/bitsEach]&bit(i) != 0 }

func (s indices) with(i int) indices {
	s[i/bitsEach] |= bit(i)
	return s
}

func (s indices) without(i int) indices {
	s[i/bitsEach] &^= bit(i)
	return s
}

// all yields the indices, ascending.
func (s indices) all() iter.Seq[int] {
	return func(yield func(int) bool) {
		for at, w := range s {
			// Each turn clears the lowest bit, so that the next one is the lowest of what is left.
			for ; w != 0; w &= w - 1 {
				if !yield(at*bitsEach + bits.TrailingZeros64(w)) {
					return
				}
			}
		}
	}
}

func (s indices) list() []int {
	var l []int
	for i := range s.all() {
		l = append(l, i)
	}
	return l
}
