package frame

import (
	"slices"
	"testing"
)

func odd(n *int) bool { return *n%2 != 0 }

// P4.2: a slot is changed in its place, and there is none past the last one.
func TestTableAt(t *testing.T) {
	l := newTable[int](3)
	*l.at(2) = 7
	for n, want := range []int{0, 0, 7} {
		if got := l.at(n); got == nil || *got != want {
			t.Errorf("at %d: %v, want %d", n, got, want)
		}
	}
	for _, n := range []int{-1, 3, 4} {
		if got := l.at(n); got != nil {
			t.Errorf("at %d: %d", n, *got)
		}
	}
}

// P4.3: those who range over the table may change its things, and may stop.
func TestTableThose(t *testing.T) {
	l := table[int]{[]int{1, 2, 3, 4, 5}}
	var seen []int
	for n, thing := range l.those(odd) {
		seen = append(seen, n)
		*thing *= 10
		if n == 2 {
			break
		}
	}
	if !slices.Equal(seen, []int{0, 2}) || !slices.Equal(l.things, []int{10, 2, 30, 4, 5}) {
		t.Error("seen:", seen, "things:", l.things)
	}
	for n := range l.those(odd) {
		if n != 4 {
			t.Error("still odd:", n)
		}
	}
}
