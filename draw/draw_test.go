package draw_test

import (
	"math"
	"slices"
	"testing"

	"coxswain/api"
	"coxswain/draw"
)

func draws(t *testing.T, l ...int) *draw.Draws {
	t.Helper()
	d, err := draw.New(l)
	if d == nil || err != api.OK {
		t.Fatalf("New(%d numbers): %v %v", len(l), d, err)
	}
	return d
}

// rest takes all that is left, and checks that nothing is left then.
func rest(t *testing.T, d *draw.Draws) []int {
	t.Helper()
	var l []int
	for left := d.Left(); left > 0; left-- {
		l = append(l, d.Next())
		checkLeft(t, d, left-1)
	}
	if n := d.Next(); n != 0 {
		t.Errorf("past the end: %d", n)
	}
	checkLeft(t, d, 0)
	return l
}

func checkLeft(t *testing.T, d *draw.Draws, want int) {
	t.Helper()
	if got := d.Left(); got != want {
		t.Errorf("left: %d, want %d", got, want)
	}
}

func checkRest(t *testing.T, d *draw.Draws, want ...int) {
	t.Helper()
	checkLeft(t, d, len(want))
	if got := rest(t, d); !slices.Equal(got, want) {
		t.Errorf("rest: %v, want %v", got, want)
	}
}

// rising is the numbers from 1 to n.
func rising(n int) []int {
	l := make([]int, n)
	for i := range l {
		l[i] = i + 1
	}
	return l
}

// P3.1: how many numbers there may be.
func TestNewLong(t *testing.T) {
	for _, n := range []int{4097, 4098, 10000} {
		if d, err := draw.New(make([]int, n)); d != nil || err != api.ErrLong {
			t.Errorf("New(%d numbers): %v %v", n, d, err)
		}
	}
	for _, n := range []int{0, 1, 2, 3, 64, 4095, 4096} {
		d := draws(t, rising(n)...)
		checkLeft(t, d, n)
		checkRest(t, d, rising(n)...)
	}
	checkRest(t, draws(t))
}

// P3.1, P3.2: the numbers come as they were given, whatever they are.
func TestNumbers(t *testing.T) {
	l := []int{0, -1, math.MaxInt, math.MinInt, 7, 7, 0, 1 << 32}
	checkRest(t, draws(t, l...), l...)
}

// P3.1: what the caller does to its list later, or has in spare, does not matter, and is left alone.
func TestNewKeepsNothing(t *testing.T) {
	all := []int{1, 2, 3, 4, 5}
	d := draws(t, all[:3]...)
	all[0], all[3] = 9, 9
	checkRest(t, d, 1, 2, 3)
	if !slices.Equal(all, []int{9, 2, 3, 9, 5}) {
		t.Error("the list became", all)
	}
}

// P3.1: draws of one list have nothing in common.
func TestNewApart(t *testing.T) {
	l := []int{4, 5}
	d, other := draws(t, l...), draws(t, l...)
	checkRest(t, d, 4, 5)
	checkRest(t, other, 4, 5)
}

// P3.1: a copy has the same state, and goes on by itself, as does what it was made of.
func TestCopy(t *testing.T) {
	for took := range 6 {
		d := draws(t, 11, 12, 13, 14)
		d.Skip(took)
		left := []int{11, 12, 13, 14}[min(took, 4):]
		c := d.Copy()
		if c == nil || c == d {
			t.Fatal("no copy")
		}
		checkLeft(t, c, len(left))
		d.Next()
		checkRest(t, c.Copy(), left...)
		checkRest(t, c, left...)
		checkRest(t, d, left[min(1, len(left)):]...)
	}
}

// P3.2: the chapter's second example.
func TestNext(t *testing.T) {
	d := draws(t, 3, 8, 1)
	checkLeft(t, d, 3)
	if n := d.Next(); n != 3 {
		t.Error("first:", n)
	}
	if h := d.Height(4); h != 1 {
		t.Error("height of 8:", h)
	}
	checkLeft(t, d, 1)
	if n := d.Next(); n != 1 {
		t.Error("third:", n)
	}
	for range 3 {
		if n := d.Next(); n != 0 {
			t.Error("past the end:", n)
		}
		checkLeft(t, d, 0)
	}
}

// P3.2: a height takes one number, whatever most is; past the end it is that of 0.
func TestHeightOfNext(t *testing.T) {
	rows := []struct{ n, most, height int }{
		{0, 4, 1}, {1, 4, 2}, {7, 4, 4}, {7, 3, 3}, {7, 0, 1}, {7, math.MinInt, 1}, {-1, math.MaxInt, 65}, {math.MinInt, 4, 1},
	}
	for _, r := range rows {
		d := draws(t, r.n, 42)
		if h := d.Height(r.most); h != r.height {
			t.Errorf("%+v: %d", r, h)
		}
		checkRest(t, d, 42)
		for _, most := range []int{4, 1, 0, -1, math.MaxInt} {
			if h := d.Height(most); h != 1 {
				t.Errorf("past the end, most %d: %d", most, h)
			}
		}
		checkLeft(t, d, 0)
	}
}

// P3.2: how many numbers a skip takes.
func TestSkip(t *testing.T) {
	for _, size := range []int{0, 1, 2, 5, 4096} {
		for _, n := range []int{math.MinInt, -5, -1, 0, 1, 2, 4, 5, 6, 4095, 4096, 4097, math.MaxInt} {
			d := draws(t, rising(size)...)
			want := min(max(n, 0), size)
			if took := d.Skip(n); took != want {
				t.Errorf("Skip(%d) of %d: %d", n, size, took)
			}
			checkRest(t, d, rising(size)[want:]...)
		}
	}
}

// P3.2: the chapter's third example.
func TestSkips(t *testing.T) {
	d := draws(t, 1, 2, 3, 4)
	got := []int{d.Skip(2), d.Next(), d.Skip(9), d.Skip(-1), d.Skip(0), d.Next()}
	if !slices.Equal(got, []int{2, 3, 1, 0, 0, 0}) {
		t.Error("got", got)
	}
}

// P3.1, P3.2: of draws that nobody made.
func TestInvalid(t *testing.T) {
	for _, d := range []*draw.Draws{nil, {}} {
		for range 2 {
			checkLeft(t, d, 0)
			if n := d.Next(); n != 0 {
				t.Error("next:", n)
			}
			for _, most := range []int{math.MinInt, 0, 1, 2, 100} {
				if h := d.Height(most); h != 1 {
					t.Errorf("height, most %d: %d", most, h)
				}
			}
			for _, n := range []int{math.MinInt, -1, 0, 1, math.MaxInt} {
				if took := d.Skip(n); took != 0 {
					t.Errorf("Skip(%d): %d", n, took)
				}
			}
			if c := d.Copy(); c != nil {
				t.Error("copy:", c)
			}
		}
	}
}

// P3.5: to skip numbers is to take them; skips add up.
func TestSkipIsNext(t *testing.T) {
	for n := range 8 {
		d := draws(t, 9, 0, -3, 5, 5)
		by, again := d.Copy(), d.Copy()
		for range n {
			d.Next()
		}
		by.Skip(n)
		again.Skip(n / 2)
		again.Skip(n - n/2)
		left := rest(t, d)
		checkRest(t, by, left...)
		checkRest(t, again, left...)
	}
}

// P3.1, P3.2, P3.5: a long run of calls, each held against what is left of the list.
func TestMixed(t *testing.T) {
	x := mixer(88172645463325252)
	for range 40 {
		left := make([]int, x.below(60))
		for i := range left {
			left[i] = x.number()
		}
		d := draws(t, left...)
		for range 30 {
			left = mixed(t, &x, d, left)
			checkLeft(t, d, len(left))
		}
		checkRest(t, d.Copy(), left...)
		checkRest(t, d, left...)
	}
}

// mixed makes one call, and returns what is left of the list after it.
func mixed(t *testing.T, x *mixer, d *draw.Draws, left []int) []int {
	t.Helper()
	next, after := 0, left
	if len(left) > 0 {
		next, after = left[0], left[1:]
	}
	switch x.below(3) {
	case 0:
		if n := d.Next(); n != next {
			t.Errorf("next: %d, want %d", n, next)
		}
	case 1:
		most := x.below(8) - 1
		if h := d.Height(most); h != slowHeight(next, most) {
			t.Errorf("height of %d, most %d: %d", next, most, h)
		}
	case 2:
		n := x.below(5) - 1
		want := min(max(n, 0), len(left))
		if took := d.Skip(n); took != want {
			t.Errorf("skip of %d: %d, want %d", n, took, want)
		}
		after = left[want:]
	}
	return after
}

// mixer makes the same numbers in each run.
type mixer uint64

func (x *mixer) below(n int) int {
	*x ^= *x << 13
	*x ^= *x >> 7
	*x ^= *x << 17
	return int(uint64(*x) % uint64(n))
}

// number is one of any size and sign, with a run of bits 1 of any length.
func (x *mixer) number() int {
	x.below(2)
	ones := x.below(65)
	return int(uint64(*x)<<ones | (1<<ones - 1))
}
