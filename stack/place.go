package stack

import (
	"iter"

	"coxswain/api"
	"coxswain/word"
)

// none is the index of nothing.
const none = -1

// place reports whether an index is a place of a stack. One that is too great for a word cannot be on it, whatever its size.
func place(s api.Stack, i int) bool { return i >= 0 && i < s.Size && i <= api.MaxIndex }

// link is the cell of the link of an index.
func link(s api.Stack, i int) int { return s.Links + i }

// read returns what a word is read as: a place of the stack, or none.
func read(s api.Stack, w uint64) int {
	// There is no error to look at: each word is that of a top.
	t, _ := word.GetTop(w)
	if !place(s, t.Index) {
		return none
	}
	return t.Index
}

// untagged returns the word of a link that names an index.
func untagged(i int) uint64 {
	w, _ := word.PutTop(api.Top{Index: i})
	return w
}

// following returns the word of the top that comes after another one: with an index, and with the next tag, by which it differs from all that were there before.
func following(top uint64, i int) uint64 {
	t, _ := word.GetTop(top)
	w, _ := word.PutTop(api.Top{Index: i, Tag: (t.Tag + 1) & api.MaxTag})
	return w
}

// indices yields the indices on the stack, from the top on. It has no end where links lead back, as they may in a memory that others have written.
func indices(s api.Stack, words []uint64) iter.Seq[int] {
	at := func(cell int) int {
		if cell < 0 || cell >= len(words) {
			return none
		}
		return read(s, words[cell])
	}
	return func(yield func(int) bool) {
		i := at(s.Top)
		for i != none && yield(i) {
			i = at(link(s, i))
		}
	}
}
