package tower

import "coxswain/api"

// A node's cells go by parts, the head's by levels: these are of different types, so that none is taken for the other.
type (
	nodePart  int
	headLevel int
)

// row is the cells of several things, side by side; each of them has as many as the row is wide, which go by numbers of the type C.
type row[C ~int] struct{ from, many, width int }

// wide creates a row for a width.
func wide[C ~int](width, from, many int) row[C] { return row[C]{from, many, width} }

// cell is where a thing's cell is, noCell if there is no such thing, or if it has no such cell.
func (r row[C]) cell(i int, c C) int {
	if i < 0 || i >= r.many || c < 0 || int(c) >= r.width {
		return noCell
	}
	return r.from + i*r.width + int(c)
}

// whose is the thing that has a cell, and what that is of it.
func (r row[C]) whose(at int) (int, C, bool) {
	if !r.span().has(at) {
		return 0, 0, false
	}
	n := at - r.from
	return n / r.width, C(n % r.width), true
}

func (r row[C]) span() span { return span{r.from, r.many * r.width} }

// nodeRow is the cells of all nodes.
func nodeRow(t api.Tower) row[nodePart] {
	return wide[nodePart](api.PartNext+t.Height, t.Nodes, size(t))
}

// headRow is the cells of the head, which is one thing.
func headRow(t api.Tower) row[headLevel] { return wide[headLevel](t.Height, t.Heads, 1) }

// span is cells that lie side by side.
type span struct{ from, many int }

func (s span) has(at int) bool { return at >= s.from && at < s.from+s.many }

// within trusts that it begins at the number of a cell, as all do of a tower that is sound.
func (s span) within(cells int) bool { return s.from <= cells-s.many }

// meets trusts that both are within a memory, so that no end wraps round.
func (s span) meets(o span) bool { return s.from < o.from+o.many && o.from < s.from+s.many }

// apart reports whether no cell of some spans is one of those ahead of them, or of the others.
func apart(own, others []span) bool {
	for i, s := range own {
		for _, o := range append(own[:i:i], others...) {
			if s.meets(o) {
				return false
			}
		}
	}
	return true
}

// limboSpans are all cells of the limbo, which has told that these are apart.
func limboSpans(l api.Limbo) []span {
	size := l.A.Free.Size
	return []span{
		{l.A.Free.Top, 1}, {l.A.Free.Links, size}, {l.A.Gens, size}, {l.A.Worn, 1},
		{l.E.At, 1}, {l.E.Pins, l.E.Cores},
		{l.Tops, waitingStacks},
	}
}
