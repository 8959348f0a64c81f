package cells

import "coxswain/api"

// cell is a word that accesses change. One that does not exist is nil: it holds 0, and nothing is written to it.
type cell uint64

func (c *cell) exists() bool { return c != nil }

func (c *cell) word() uint64 {
	if !c.exists() {
		return 0
	}
	return uint64(*c)
}

// reach points to the cell of one access, and has the words that this was given. Its methods are the accesses; what they return lacks the kind and the number of the cell, which do not matter to them.
type reach struct {
	cell     *cell
	old, new uint64
}

func (r reach) load() api.Access { return r.keep() }

func (r reach) store() api.Access { return r.write(r.new) }

func (r reach) swap() api.Access {
	if r.cell.word() != r.old {
		return r.keep()
	}
	return r.write(r.new)
}

func (r reach) add() api.Access { return r.write(r.cell.word() + r.new) }

func (r reach) keep() api.Access {
	w := r.cell.word()
	return api.Access{Old: w, New: w}
}

func (r reach) write(w uint64) api.Access {
	if !r.cell.exists() {
		return r.keep()
	}
	old := r.cell.word()
	*r.cell = cell(w)
	return api.Access{Old: old, New: w, Held: true}
}
