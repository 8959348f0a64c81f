package draw_test

import (
	"math"
	"slices"
	"strconv"
	"strings"
	"testing"

	"coxswain/draw"
)

// slowHeight reads the run off the number written in base 2.
func slowHeight(n, most int) int {
	digits := strconv.FormatUint(uint64(n), 2)
	ones := len(digits) - len(strings.TrimRight(digits, "1"))
	if most < 1 {
		return 1
	}
	return min(ones+1, most)
}

// P3.3: the chapter's example, and numbers at the edges.
func TestHeight(t *testing.T) {
	rows := []struct{ n, most, height int }{
		{0, 4, 1}, {1, 4, 2}, {3, 4, 3}, {5, 4, 2}, {-1, 4, 4}, {7, 2, 2}, {7, 0, 1},
		{2, 4, 1}, {4, 4, 1}, {6, 4, 1}, {8, 4, 1}, {11, 4, 3}, {15, 4, 4}, {15, 5, 5}, {15, 6, 5}, {31, 4, 4},
		{-2, 4, 1}, {-3, 4, 2}, {-5, 4, 3}, {-9, 9, 4},
		{7, 1, 1}, {7, -1, 1}, {7, math.MinInt, 1}, {-1, math.MinInt, 1},
		{math.MaxInt, math.MaxInt, 64}, {math.MaxInt, 64, 64}, {math.MaxInt, 63, 63},
		{-1, math.MaxInt, 65}, {-1, 66, 65}, {-1, 65, 65}, {-1, 64, 64}, {-1, 63, 63},
		{math.MinInt, math.MaxInt, 1}, {0, math.MaxInt, 1},
	}
	for _, r := range rows {
		if h := draw.Height(r.n, r.most); h != r.height {
			t.Errorf("%+v: %d", r, h)
		}
	}
}

// P3.3: a run of any length, ended by one bit or by many.
func TestHeightOfRuns(t *testing.T) {
	for ones := range 65 {
		run := uint64(1)<<ones - 1
		for _, above := range []uint64{0, ^uint64(1) << ones, 2 << ones} {
			for _, most := range []int{-1, 0, 1, 2, ones, ones + 1, ones + 2, 64, 65, 100} {
				want := 1
				if most > 1 {
					want = min(ones+1, most)
				}
				if h := draw.Height(int(run|above), most); h != want {
					t.Errorf("%#x, most %d: %d, want %d", run|above, most, h, want)
				}
			}
		}
	}
}

// P3.4: heights are from 1 to most, and do not fall when most grows.
func TestHeightRises(t *testing.T) {
	x := mixer(2463534242)
	for range 500 {
		n, last := x.number(), 1
		for most := -2; most < 70; most++ {
			h := draw.Height(n, most)
			if h < last || h > max(most, 1) || h != slowHeight(n, most) {
				t.Errorf("%d, most %d: %d after %d", n, most, h, last)
			}
			last = h
		}
	}
}

// P3.3: the heights of many are those of each, in their order.
func TestHeights(t *testing.T) {
	if l := draw.Heights([]int{0, 1, 3}, 2); !slices.Equal(l, []int{1, 2, 2}) {
		t.Error("got", l)
	}
	for _, l := range [][]int{nil, {}} {
		if h := draw.Heights(l, 3); len(h) != 0 {
			t.Error("of none:", h)
		}
	}
	l := []int{-1, 0, 7, 7, 5, math.MinInt, math.MaxInt, 1}
	before := slices.Clone(l)
	for _, most := range []int{math.MinInt, -1, 0, 1, 2, 3, 4, 64, 65, math.MaxInt} {
		var want []int
		for _, n := range l {
			want = append(want, slowHeight(n, most))
		}
		if h := draw.Heights(l, most); !slices.Equal(h, want) {
			t.Errorf("most %d: %v, want %v", most, h, want)
		}
		if !slices.Equal(l, before) {
			t.Fatal("the list became", l)
		}
	}
}

// P3.3: heights are new memory, and so are they of a list longer than draws may be.
func TestHeightsOwn(t *testing.T) {
	all := []int{1, 1, 1, 1}
	h := draw.Heights(all[:2], 4)
	for i := range h[:cap(h)] {
		h[:cap(h)][i] = 9
	}
	if !slices.Equal(all, []int{1, 1, 1, 1}) {
		t.Error("the list became", all)
	}
	if again := draw.Heights(all[:2], 4); !slices.Equal(again, []int{2, 2}) {
		t.Error("later:", again)
	}
	if h := draw.Heights(make([]int, 5000), 4); len(h) != 5000 || slices.Max(h) != 1 || slices.Min(h) != 1 {
		t.Error("of 5000 numbers:", len(h))
	}
}
