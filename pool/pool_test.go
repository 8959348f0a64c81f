package pool_test

import (
	"math"
	"slices"
	"testing"

	"coxswain/api"
	"coxswain/pool"
)

var (
	alloc  = api.Op{Kind: api.OpAlloc}
	ok     = api.Ans{}
	full   = api.Ans{Err: api.ErrFull}
	worn   = api.Ans{Err: api.ErrWorn}
	double = api.Ans{Err: api.ErrDouble}
	beyond = api.Ans{Err: api.ErrRange}
)

func free(i int) api.Op { return api.Op{Kind: api.OpFree, A: i} }

func is(i int) api.Ans { return api.Ans{N: i} }

// counted makes the list of the numbers from 0 on.
func counted(n int) []int {
	var s []int
	for i := range n {
		s = append(s, i)
	}
	return s
}

// but returns a list without a number.
func but(s []int, i int) []int {
	return slices.DeleteFunc(slices.Clone(s), func(j int) bool { return j == i })
}

// way is an answer that is possible, and the pool after it.
type way struct {
	ans   api.Ans
	after []int
}

// checkWays holds an operation against all its ways, in their order: each is possible, and no answer is that differs from them, by one field or more.
func checkWays(t *testing.T, s []int, op api.Op, ways ...way) {
	t.Helper()
	var want []api.Ans
	at := map[api.Ans]int{}
	for i, w := range ways {
		want = append(want, w.ans)
		at[w.ans] = i
	}
	if got := pool.All(s, op); !slices.Equal(got, want) {
		t.Errorf("%v, %v: all %v, want %v", few(s), op, few(got), few(want))
	}
	for _, ans := range answers(s, op, want) {
		i, possible := at[ans]
		got, has := pool.Next(s, op, ans)
		if has != possible || has && !slices.Equal(got, ways[i].after) || !has && len(got) != 0 {
			t.Errorf("%v, %v: next of %v: %v %v", few(s), op, ans, few(got), has)
		}
	}
}

// answers returns the answers that are wanted, and many that are near to them, or to what the operation and the pool tell.
func answers(s []int, op api.Op, want []api.Ans) []api.Ans {
	numbers := []int{0, 1, 2, 3, -1, 63, 64, 65, 1022, 1023, 1024, op.A, op.B, math.MinInt, math.MaxInt}
	if len(s) > 0 {
		first, last := s[0], s[len(s)-1]
		numbers = append(numbers, first-1, first, first+1, last-1, last, last+1, s[len(s)/2])
	}
	l := slices.Clone(want)
	for _, n := range numbers {
		for _, err := range []api.Errno{api.OK, api.ErrFull, api.ErrWorn, api.ErrDouble, api.ErrRange, api.ErrNone, -1} {
			for _, w := range []uint64{0, 1, op.W} {
				l = append(l, api.Ans{Err: err, N: n, W: w})
			}
		}
	}
	return l
}

// few cuts a list to what can be read.
func few[T any](l []T) []T { return l[:min(len(l), 9)] }

// P8.1 to P8.3: the chapter's examples.
func TestExample(t *testing.T) {
	s := []int{1, 4, 5}
	checkWays(t, s, alloc, way{is(1), []int{4, 5}}, way{is(4), []int{1, 5}}, way{is(5), []int{1, 4}}, way{full, s}, way{worn, s})
	checkWays(t, s, free(1024), way{beyond, s})
	checkWays(t, s, free(4), way{double, s})
	checkWays(t, s, free(2), way{ok, []int{1, 2, 4, 5}})
	checkWays(t, s, free(0), way{ok, []int{0, 1, 4, 5}})
	checkWays(t, s, api.Op{Kind: api.OpPush})
	if a, b := pool.Rest(s, 6), pool.Rest(s, -1); !slices.Equal(a, []int{0, 2, 3}) || len(b) != 0 {
		t.Error("rest:", a, b)
	}
	answers, left, err := pool.Play(2, []api.Op{alloc, alloc, alloc, free(0), free(0), {Kind: api.OpPush}, alloc})
	if want := []api.Ans{is(0), is(1), full, ok, double, {}, is(0)}; !slices.Equal(answers, want) || len(left) != 0 || err != api.OK {
		t.Error("play:", answers, left, err)
	}
	if answers, left, err := pool.Play(1025, nil); len(answers) != 0 || len(left) != 0 || err != api.ErrRange {
		t.Error("play of 1025:", answers, left, err)
	}
}

// P8.1: lists that are pools, and lists that are none; what is no index counts ahead of the order, wherever it stands.
func TestCheck(t *testing.T) {
	for _, x := range []struct {
		s    []int
		want api.Errno
	}{
		{nil, api.OK}, {[]int{}, api.OK}, {[]int{0}, api.OK}, {[]int{1023}, api.OK}, {[]int{0, 1023}, api.OK}, {[]int{0, 1, 2, 64, 65, 1022, 1023}, api.OK},
		{[]int{4, 1}, api.ErrOrder}, {[]int{1, 1}, api.ErrOrder}, {[]int{0, 0}, api.ErrOrder}, {[]int{0, 1, 2, 2}, api.ErrOrder}, {[]int{1, 0, 2}, api.ErrOrder}, {[]int{1, 2, 0}, api.ErrOrder}, {[]int{1023, 1023}, api.ErrOrder}, {[]int{1023, 0}, api.ErrOrder},
		{[]int{-1}, api.ErrRange}, {[]int{1024}, api.ErrRange}, {[]int{0, 1024}, api.ErrRange}, {[]int{-1, 0}, api.ErrRange}, {[]int{math.MinInt}, api.ErrRange}, {[]int{math.MaxInt}, api.ErrRange}, {[]int{1 << 32}, api.ErrRange},
		{[]int{4, 1, 1024}, api.ErrRange}, {[]int{1, 1, -1}, api.ErrRange}, {[]int{-1, -1}, api.ErrRange}, {[]int{1024, 4, 1}, api.ErrRange}, {[]int{4, 1, -5, 2}, api.ErrRange},
	} {
		if got := pool.Check(x.s); got != x.want {
			t.Errorf("%v: %v, want %v", x.s, got, x.want)
		}
	}
	all := counted(1024)
	for _, x := range []struct {
		s    []int
		want api.Errno
	}{{all, api.OK}, {all[:1023], api.OK}, {all[1:], api.OK}, {append(counted(1024), 0), api.ErrOrder}, {append(counted(1024), 1023), api.ErrOrder}, {counted(1025), api.ErrRange}, {append(counted(1024), all...), api.ErrOrder}} {
		if got := pool.Check(x.s); got != x.want {
			t.Errorf("%d numbers: %v, want %v", len(x.s), got, x.want)
		}
	}
}

// P8.1: the rest of any list: of none, of one in any order, with numbers more than once, and with such as are no index.
func TestRest(t *testing.T) {
	all := counted(1024)
	for _, x := range []struct {
		s    []int
		n    int
		want []int
	}{
		{nil, 0, nil}, {nil, 1, all[:1]}, {nil, 64, all[:64]}, {nil, 65, all[:65]}, {nil, 1023, all[:1023]}, {nil, 1024, all}, {nil, 1025, all}, {nil, math.MaxInt, all}, {nil, -1, nil}, {nil, -1024, nil}, {nil, math.MinInt, nil},
		{[]int{}, 3, all[:3]}, {[]int{3}, 3, all[:3]}, {[]int{2}, 3, all[:2]}, {[]int{0, 1, 2}, 3, nil}, {[]int{2, 0, 1}, 3, nil}, {[]int{1}, 0, nil}, {[]int{1}, -1, nil},
		{[]int{9, 0, 0, -7, 4000}, 3, []int{1, 2}}, {[]int{5, 1, 5, 3, 1}, 7, []int{0, 2, 4, 6}},
		{[]int{-1, 1024, math.MinInt, math.MaxInt, 1 << 32, -1 << 32, -64, 1088}, 4, all[:4]},
		{[]int{63, 64, 1023}, 2000, but(but(but(all, 63), 64), 1023)}, {all, 1024, nil}, {all, 5000, nil}, {all[1:], 1024, all[:1]}, {all[:1023], 1024, all[1023:]}, {all[:1023], 1023, nil},
	} {
		if got := pool.Rest(x.s, x.n); !slices.Equal(got, x.want) {
			t.Errorf("%v, %d: %v, want %v", few(x.s), x.n, few(got), few(x.want))
		}
	}
}

// P8.2: a list that is no pool has no answers, and no operation on it may get any.
func TestNoPool(t *testing.T) {
	for _, s := range [][]int{{4, 1}, {1, 1}, {-1}, {1024}, {0, 1, 1024}, {4, 1, 1024}, counted(1025), append(counted(1024), 0)} {
		for _, op := range []api.Op{alloc, free(0), free(1), free(7), free(1024), {}} {
			checkWays(t, s, op)
		}
	}
}

// P8.2: of all kinds of operations only two have answers.
func TestKinds(t *testing.T) {
	for _, kind := range []int{0, -1, -7, -8, api.OpPush, api.OpFront, api.OpDrop, api.OpPut, api.OpPick, api.OpLook, 9, 10, 11, 1<<32 + 7, 1<<32 + 8, math.MinInt, math.MaxInt} {
		for _, s := range [][]int{nil, {1}, {1, 4, 5}} {
			checkWays(t, s, api.Op{Kind: kind, A: 1, B: 2, W: 3})
		}
	}
}

// P8.2: of an operation only the kind counts, and the index that is freed.
func TestFields(t *testing.T) {
	s := []int{1, 4}
	for _, n := range []int{0, 1, 4, -1, 1024, math.MaxInt} {
		w := uint64(n)
		checkWays(t, s, api.Op{Kind: api.OpAlloc, A: n, B: n, W: w}, way{is(1), s[1:]}, way{is(4), s[:1]}, way{full, s}, way{worn, s})
		checkWays(t, s, api.Op{Kind: api.OpFree, A: 2, B: n, W: w}, way{ok, []int{1, 2, 4}})
		checkWays(t, s, api.Op{Kind: api.OpFree, A: 4, B: n, W: w}, way{double, s})
		checkWays(t, s, api.Op{Kind: api.OpFree, A: -1, B: n, W: w}, way{beyond, s})
	}
}

// P8.2: pools without an index, and with each: what is given out and taken back at the ends of the words in which the bits lie, and of the pool.
func TestEdges(t *testing.T) {
	checkWays(t, nil, alloc, way{full, nil}, way{worn, nil})
	checkWays(t, []int{}, alloc, way{full, nil}, way{worn, nil})
	all := counted(1024)
	var ways []way
	for _, i := range all {
		ways = append(ways, way{is(i), but(all, i)})
	}
	checkWays(t, all, alloc, append(ways, way{full, all}, way{worn, all})...)
	for _, i := range []int{0, 1, 31, 32, 62, 63, 64, 65, 127, 128, 959, 960, 1022, 1023} {
		checkWays(t, nil, free(i), way{ok, []int{i}})
		checkWays(t, []int{i}, free(i), way{double, []int{i}})
		checkWays(t, []int{i}, alloc, way{is(i), nil}, way{full, []int{i}}, way{worn, []int{i}})
		checkWays(t, all, free(i), way{double, all})
		checkWays(t, but(all, i), free(i), way{ok, all})
	}
	for _, i := range []int{-1, -2, -64, -1023, -1024, 1024, 1025, 2047, 1 << 32, 1<<32 + 1, math.MinInt, math.MaxInt} {
		for _, s := range [][]int{nil, {0, 1}, all} {
			checkWays(t, s, free(i), way{beyond, s})
		}
	}
}

// P8.3: how many indices a pool may have, whatever is to be played.
func TestPlayRange(t *testing.T) {
	for _, n := range []int{-1, -2, 1025, 1026, 2048, 1 << 32, math.MinInt, math.MaxInt} {
		for _, l := range [][]api.Op{nil, {}, {alloc}, {free(3), alloc}, {{Kind: api.OpPush}}} {
			if answers, left, err := pool.Play(n, l); len(answers) != 0 || len(left) != 0 || err != api.ErrRange {
				t.Errorf("%d, %v: %v %v %v", n, l, answers, left, err)
			}
		}
	}
	for _, n := range []int{0, 1, 2, 63, 64, 65, 1023, 1024} {
		for _, l := range [][]api.Op{nil, {}} {
			if answers, left, err := pool.Play(n, l); len(answers) != 0 || !slices.Equal(left, counted(n)) || err != api.OK {
				t.Errorf("%d, nothing: %v %v %v", n, answers, few(left), err)
			}
		}
	}
}

// P8.3: all indices are given out, the least each time, and then no more; one that is freed comes again, also one that was not there at first.
func TestPlay(t *testing.T) {
	for _, n := range []int{0, 1, 64, 1024} {
		var l []api.Op
		var want []api.Ans
		for i := range n {
			l, want = append(l, alloc), append(want, is(i))
		}
		l, want = append(l, alloc, free(700), free(700), alloc, alloc), append(want, full, ok, double, is(700), full)
		if answers, left, err := pool.Play(n, l); !slices.Equal(answers, want) || len(left) != 0 || err != api.OK {
			t.Errorf("%d: %v %v %v", n, few(answers[n:]), few(left), err)
		}
	}
	answers, left, err := pool.Play(0, []api.Op{alloc, free(1023), free(0), free(-1), free(1024), free(64), alloc, free(0), free(0)})
	if want := []api.Ans{full, ok, ok, beyond, beyond, ok, is(0), ok, double}; !slices.Equal(answers, want) || !slices.Equal(left, []int{0, 64, 1023}) || err != api.OK {
		t.Error(answers, left, err)
	}
}

// P8.3: kinds that have no answer get the zero one, and change nothing, whatever their fields are.
func TestPlayKinds(t *testing.T) {
	var l []api.Op
	for _, kind := range []int{0, -1, -7, api.OpPush, api.OpPick, api.OpLook, 9, 1<<32 + 7, math.MinInt, math.MaxInt} {
		l = append(l, api.Op{Kind: kind, A: 1}, api.Op{Kind: kind, A: 5, B: 1, W: 7})
	}
	answers, left, err := pool.Play(3, l)
	if !slices.Equal(answers, make([]api.Ans, len(l))) || !slices.Equal(left, []int{0, 1, 2}) || err != api.OK {
		t.Error(answers, left, err)
	}
	answers, left, err = pool.Play(3, append(append([]api.Op{alloc}, l...), alloc, free(0)))
	want := append(append([]api.Ans{is(0)}, make([]api.Ans, len(l))...), is(1), ok)
	if !slices.Equal(answers, want) || !slices.Equal(left, []int{0, 2}) || err != api.OK {
		t.Error(answers, left, err)
	}
}

// P8.1 to P8.3: what is handed out is new memory, and what is handed in stays as it is, to the end of its room.
func TestOwn(t *testing.T) {
	room, ops := []int{1, 4, 5, 9, 12, 13}, []api.Op{alloc, free(9), alloc, free(1), alloc}
	wantRoom, wantOps := slices.Clone(room), slices.Clone(ops)
	var before [][]int
	for range 2 {
		s := room[:4]
		var out [][]int
		for _, x := range []struct {
			op  api.Op
			ans api.Ans
		}{{alloc, is(1)}, {alloc, is(9)}, {alloc, full}, {alloc, worn}, {free(4), double}, {free(10), ok}, {free(2000), beyond}} {
			l, has := pool.Next(s, x.op, x.ans)
			if !has {
				t.Error(x.op, x.ans)
			}
			out = append(out, l)
		}
		answers, left, _ := pool.Play(9, ops)
		all := pool.All(s, alloc)
		out = append(out, left, pool.Rest(s, 20), pool.Rest(nil, 5), pool.Rest(s, 0))
		var now [][]int
		for _, l := range out {
			now = append(now, slices.Clone(l))
		}
		if before != nil && !slices.EqualFunc(now, before, slices.Equal) {
			t.Error("other answers at the second time:", now, before)
		}
		before = now
		for _, l := range out {
			spoil(l, -9)
		}
		spoil(answers, api.Ans{Err: -9})
		spoil(all, api.Ans{Err: -9})
		if !slices.Equal(room, wantRoom) || !slices.Equal(ops, wantOps) {
			t.Fatal("what was handed in is", room, ops)
		}
	}
}

// spoil writes over a list, to the end of its room.
func spoil[T any](l []T, x T) {
	l = l[:cap(l)]
	for i := range l {
		l[i] = x
	}
}
