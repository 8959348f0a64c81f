package pool

import (
	"slices"
	"testing"

	"coxswain/api"
)

// P8.2: the indices come ascending, from a copy: what becomes of the set meanwhile does not count, and who has enough may leave.
func TestAll(t *testing.T) {
	want := []int{0, 1, 63, 64, 128, 1022, 1023}
	s := these(want)
	for many := range len(want) + 1 {
		var got []int
		for i := range s.all() {
			if len(got) == many {
				break
			}
			got = append(got, i)
		}
		if !slices.Equal(got, want[:many]) {
			t.Errorf("the first %d: %v", many, got)
		}
	}
	kept := s.all()
	s[0], s[15] = 0, 0
	if got := slices.Collect(kept); !slices.Equal(got, want) {
		t.Error("of the copy:", got)
	}
	if got := s.list(); !slices.Equal(got, want[3:5]) {
		t.Error("of the set:", got)
	}
}

// P8.2: what follows a set leaves it as it was.
func TestStays(t *testing.T) {
	for i := range api.MaxPool {
		s := these([]int{5, 64, 1000})
		more, less := s.with(i), s.without(i)
		if !more.has(i) || less.has(i) || !slices.Equal(s.list(), []int{5, 64, 1000}) {
			t.Errorf("%d: %v, %v of %v", i, more.list(), less.list(), s.list())
		}
	}
}

// P8.3: who asks for the first possible answers gets these alone.
func TestPossible(t *testing.T) {
	free := these([]int{3, 70})
	all := []api.Ans{{N: 3}, {N: 70}, {Err: api.ErrFull}, {Err: api.ErrWorn}}
	for most := range every + 1 {
		if got := possible(free, api.Op{Kind: api.OpAlloc}, most); !slices.Equal(got, all[:min(most, len(all))]) {
			t.Errorf("%d of an alloc: %v", most, got)
		}
		if got := possible(free, api.Op{Kind: api.OpFree, A: 70}, most); !slices.Equal(got, []api.Ans{{Err: api.ErrDouble}}[:min(most, 1)]) {
			t.Errorf("%d of a free: %v", most, got)
		}
		if got := possible(free, api.Op{Kind: api.OpLook}, most); len(got) != 0 {
			t.Errorf("%d of a look: %v", most, got)
		}
	}
}
