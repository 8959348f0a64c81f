package pool_test

import (
	"slices"
	"testing"

	"coxswain/api"
	"coxswain/pool"
)

// bag tells of each number whether it is free.
type bag map[int]bool

func bagOf(s []int) bag {
	b := bag{}
	for _, i := range s {
		b[i] = true
	}
	return b
}

func (b bag) list() []int {
	var s []int
	for i := range 1024 {
		if b[i] {
			s = append(s, i)
		}
	}
	return s
}

// with returns the list of the bag in which a number is free, or is not.
func (b bag) with(i int, free bool) []int {
	was := b[i]
	b[i] = free
	s := b.list()
	b[i] = was
	return s
}

// ways returns all ways of an operation that is an alloc or a free.
func (b bag) ways(op api.Op) []way {
	same := b.list()
	switch {
	case op.Kind == api.OpAlloc:
		var l []way
		for _, i := range same {
			l = append(l, way{is(i), b.with(i, false)})
		}
		return append(l, way{full, same}, way{worn, same})
	case op.A < 0 || op.A > 1023:
		return []way{{beyond, same}}
	case b[op.A]:
		return []way{{double, same}}
	}
	return []way{{ok, b.with(op.A, true)}}
}

// P8.2: all pools of indices around the end of a word, and each operation on them.
func TestAllPools(t *testing.T) {
	for n := range 1 << 6 {
		var s []int
		for i := range 6 {
			if n>>i&1 == 1 {
				s = append(s, 61+i)
			}
		}
		b := bagOf(s)
		checkWays(t, s, alloc, b.ways(alloc)...)
		for i := range 9 {
			checkWays(t, s, free(60+i), b.ways(free(60+i))...)
		}
	}
}

// P8.1: all lists of up to 4 numbers from -1 to 4, and 1022 to 1024: how they stand, and what is left beside them.
func TestAllLists(t *testing.T) {
	numbers := []int{-1, 0, 1, 2, 3, 1022, 1023, 1024}
	var lists func(s []int)
	lists = func(s []int) {
		want := api.OK
		for i, x := range s {
			for _, y := range s[:i] {
				if y >= x {
					want = api.ErrOrder
				}
			}
		}
		if slices.Contains(s, -1) || slices.Contains(s, 1024) {
			want = api.ErrRange
		}
		if got := pool.Check(s); got != want {
			t.Errorf("%v: %v, want %v", s, got, want)
		}
		for _, n := range []int{-1, 0, 1, 3, 4, 1023, 1025} {
			checkRest(t, s, n)
		}
		if len(s) == 4 {
			return
		}
		for _, i := range numbers {
			lists(append(s[:len(s):len(s)], i))
		}
	}
	lists(nil)
}

// checkRest holds the rest of a list against what stands in the list: the numbers that are missing are all there, and no other.
func checkRest(t *testing.T, s []int, n int) {
	t.Helper()
	at := 0
	got := pool.Rest(s, n)
	for i := range max(min(n, 1024), 0) {
		if slices.Contains(s, i) {
			continue
		}
		if at >= len(got) || got[at] != i {
			t.Fatalf("%v, %d: %v, where is %d", s, n, few(got), i)
		}
		at++
	}
	if at != len(got) {
		t.Fatalf("%v, %d: %v, of which %d are right", s, n, few(got), at)
	}
}

// P8.4: whatever is chosen of the possible answers, what comes after is a pool, and no index is given out again before it is freed; each is held against the naive pool.
func TestMixed(t *testing.T) {
	x := mixer(362436069362436069)
	for _, n := range []int{0, 1, 3, 64, 65, 1024} {
		s := counted(n)
		b := bagOf(s)
		for step := range 1200 {
			op := []api.Op{alloc, free(x.below(n+2) - 1), free(x.below(1026) - 1), alloc}[x.below(4)]
			if step/100%2 == 1 {
				op = []api.Op{alloc, alloc, free(x.below(n + 1))}[x.below(3)]
			}
			all := pool.All(s, op)
			if step%100 == 0 {
				checkWays(t, s, op, b.ways(op)...)
			}
			ans := all[x.below(len(all))]
			next, is := pool.Next(s, op, ans)
			if !is || pool.Check(next) != api.OK {
				t.Fatalf("%d, step %d, %v %v: %v %v", n, step, op, ans, few(next), is)
			}
			s = next
			switch {
			case ans == (api.Ans{}) && op.Kind == api.OpFree:
				if b[op.A] {
					t.Fatalf("%d, step %d: %d was freed twice", n, step, op.A)
				}
				b[op.A] = true
			case ans.Err == api.OK:
				if !b[ans.N] {
					t.Fatalf("%d, step %d: %d was given out twice", n, step, ans.N)
				}
				b[ans.N] = false
			}
			if !slices.Equal(s, b.list()) {
				t.Fatalf("%d, step %d, %v %v: %v, want %v", n, step, op, ans, few(s), few(b.list()))
			}
		}
	}
}

// naivePlay plays operations on a bag.
func naivePlay(n int, l []api.Op) ([]api.Ans, []int) {
	b := bagOf(counted(n))
	var out []api.Ans
	for _, op := range l {
		ans := api.Ans{}
		switch op.Kind {
		case api.OpAlloc:
			ans = b.alloc()
		case api.OpFree:
			ans = b.free(op.A)
		}
		out = append(out, ans)
	}
	return out, b.list()
}

func (b bag) alloc() api.Ans {
	for i := range 1024 {
		if b[i] {
			b[i] = false
			return is(i)
		}
	}
	return full
}

func (b bag) free(i int) api.Ans {
	if i < 0 || i > 1023 {
		return beyond
	}
	if b[i] {
		return double
	}
	b[i] = true
	return ok
}

// P8.3: all lists of up to 5 operations on pools of up to 2 indices.
func TestAllPlays(t *testing.T) {
	ops := []api.Op{alloc, free(0), free(1), free(70), free(1024), {Kind: api.OpPick, A: 1}}
	var plays func(l []api.Op)
	plays = func(l []api.Op) {
		for n := range 3 {
			checkPlay(t, n, l)
		}
		if len(l) == 5 {
			return
		}
		for _, op := range ops {
			plays(append(l[:len(l):len(l)], op))
		}
	}
	plays(nil)
}

// P8.3: long mixed plays.
func TestLongPlays(t *testing.T) {
	x := mixer(88172645463325252)
	for _, n := range []int{0, 1, 2, 70, 1023, 1024} {
		var l []api.Op
		for range 1300 {
			l = append(l, []api.Op{alloc, alloc, free(x.below(n + 3)), free(x.below(1030) - 3), {Kind: x.below(12), A: x.below(9)}}[x.below(5)])
		}
		checkPlay(t, n, l)
	}
}

func checkPlay(t *testing.T, n int, l []api.Op) {
	t.Helper()
	want, rest := naivePlay(n, l)
	answers, left, err := pool.Play(n, l)
	if !slices.Equal(answers, want) || !slices.Equal(left, rest) || err != api.OK {
		t.Fatalf("%d, %v: %v %v %v, want %v %v", n, few(l), few(answers), few(left), err, few(want), few(rest))
	}
}

// mixer makes the same numbers in each run.
type mixer uint64

func (x *mixer) below(n int) int {
	*x ^= *x << 13
	*x ^= *x >> 7
	*x ^= *x << 17
	return int(uint64(*x) % uint64(n))
}
