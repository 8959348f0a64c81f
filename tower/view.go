package tower

import (
	"iter"

	"coxswain/api"
	"coxswain/cells"
	"coxswain/word"
)

// view is what the cells of a tower held when it was looked at.
type view struct {
	tower api.Tower
	words []uint64
}

func look(t api.Tower, m *cells.Mem) view { return view{t, m.Words()} }

// held is what a cell held; one that does not exist holds 0.
func (v view) held(at int) uint64 {
	if at < 0 || at >= len(v.words) {
		return 0
	}
	return v.words[at]
}

func (v view) part(i, p int) uint64 { return v.held(At(v.tower, i, p)) }

func (v view) next(i, l int) uint64 { return v.held(Next(v.tower, i, l)) }

// level yields the nodes on a level, but not more than there are: where others have written, words may lead back.
func (v view) level(l int) iter.Seq[int] {
	return func(yield func(int) bool) {
		i := head
		for range size(v.tower) {
			if i = read(v.tower, v.next(i, l)); i == none || !yield(i) {
				return
			}
		}
	}
}

// read returns what a word is read as: a node, or none.
func read(t api.Tower, w uint64) int {
	// A ref has its index where a top has it; and each word is that of a top, so that there is no error to look at.
	top, _ := word.GetTop(w)
	if !isNode(t, top.Index) {
		return none
	}
	return top.Index
}
