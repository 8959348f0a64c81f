package find

import (
	"coxswain/api"
	"coxswain/tower"
	"coxswain/word"
)

const (
	// head is the index of what comes ahead of all nodes.
	head = -1

	// none is the index of nothing.
	none = -1
)

// row is which step comes next on a level.
type row int

// A level on which there was no step, like one that is begun anew, has the first of these.
const (
	enter   row = iota // load what is behind the pred
	look               // load what is behind cur
	cut                // swap cur, whose node is marked, for what is behind it
	compare            // load the key of cur
	done
)

// position is where a Find is on a level: behind the pred, at the word cur.
type position struct {
	pred  int    // the head, or a node whose key is below
	known uint64 // the ref by which the pred is known, 0 for the head
	cur   uint64 // what was behind the pred
	link  uint64 // what was behind cur
	next  row
}

// sound reports whether a tower is: only then the head has a cell on the level 0.
func sound(t api.Tower) bool { return tower.Next(t, head, 0) >= 0 }

// read returns what a word is read as: a node, or none.
func read(t api.Tower, w uint64) int {
	// A ref has its index where a top has it; and each word is that of a top, so that there is no error to look at.
	top, _ := word.GetTop(w)
	if top.Index >= t.Limbo.A.Free.Size {
		return none
	}
	return top.Index
}
