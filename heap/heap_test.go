package heap_test

import (
	"math"
	"slices"
	"testing"

	"coxswain/api"
	"coxswain/heap"
)

var (
	pick   = api.Op{Kind: api.OpPick}
	look   = api.Op{Kind: api.OpLook}
	full   = api.Ans{Err: api.ErrFull}
	worn   = api.Ans{Err: api.ErrWorn}
	double = api.Ans{Err: api.ErrDouble}
	none   = api.Ans{Err: api.ErrNone}
)

func put(key uint64, a int) api.Op { return api.Op{Kind: api.OpPut, W: key, A: a} }

func is(key uint64, a int) api.Ans { return api.Ans{N: a, W: key} }

// items makes items of keys and values, one after the other.
func items(l ...int) []api.Item {
	var s []api.Item
	for i := 0; i < len(l); i += 2 {
		s = append(s, api.Item{Key: uint64(l[i]), A: l[i+1]})
	}
	return s
}

// spread makes a set of n items, between any two of which, and ahead of the first, there is room for others.
func spread(n int) []api.Item {
	var s []api.Item
	for i := range n {
		s = append(s, api.Item{Key: uint64(i)*3 + 2, A: 7 - i})
	}
	return s
}

// way is an answer that is possible, and the set after it.
type way struct {
	ans   api.Ans
	after []api.Item
}

// checkWays holds an operation against all its ways: each is possible, and no answer is that differs from them, by one field or more.
func checkWays(t *testing.T, s []api.Item, op api.Op, ways ...way) {
	t.Helper()
	is := map[api.Ans]int{}
	for i, w := range ways {
		is[w.ans] = i
	}
	for _, ans := range answers(s, op) {
		i, want := is[ans]
		got, has := heap.Next(s, op, ans)
		if has != want || has && !slices.Equal(got, ways[i].after) || !has && len(got) != 0 {
			t.Errorf("%v, %v: next of %v: %v %v", few(s), op, ans, few(got), has)
		}
	}
	checkAnswer(t, s, op, ways)
}

// checkAnswer holds the answer to an operation against the one of its ways that is no refusal.
func checkAnswer(t *testing.T, s []api.Item, op api.Op, ways []way) {
	t.Helper()
	var want api.Ans
	exists := false
	for _, w := range ways {
		if w.ans != full && w.ans != worn {
			want, exists = w.ans, true
		}
	}
	if got, has := heap.Answer(s, op); got != want || has != exists {
		t.Errorf("%v, %v: answer %v %v, want %v %v", few(s), op, got, has, want, exists)
	}
}

// answers returns those that an operation could be thought to get, and what differs from them by one field.
func answers(s []api.Item, op api.Op) []api.Ans {
	var l []api.Ans
	for err := range api.ErrNone + 3 {
		l = append(l, api.Ans{Err: err - 1})
	}
	l = append(l, api.Ans{N: op.A, W: op.W}, is(0, 1), is(1, 0))
	for _, x := range few(s) {
		l = append(l, is(x.Key, x.A))
	}
	for _, a := range slices.Clone(l) {
		for _, by := range []int{1, -1, math.MinInt} {
			l = append(l, api.Ans{Err: a.Err, N: a.N + by, W: a.W}, api.Ans{Err: a.Err, N: a.N, W: a.W + uint64(by)})
		}
		l = append(l, api.Ans{Err: api.ErrFull, N: a.N, W: a.W}, api.Ans{Err: api.ErrWorn, N: a.N, W: a.W}, api.Ans{Err: api.ErrDouble, N: a.N, W: a.W}, api.Ans{Err: api.ErrNone, N: a.N, W: a.W})
	}
	return l
}

// few returns the first items, to be told.
func few(s []api.Item) []api.Item { return s[:min(len(s), 6)] }

// P7.1, P7.2: the chapter's examples.
func TestExample(t *testing.T) {
	s := items(3, 7, 5, 8)
	checkWays(t, s, put(4, 9), way{api.Ans{}, items(3, 7, 4, 9, 5, 8)}, way{full, s}, way{worn, s})
	checkWays(t, s, put(5, 1), way{double, s}, way{full, s}, way{worn, s})
	checkWays(t, s, pick, way{is(3, 7), items(5, 8)})
	checkWays(t, s, look, way{is(3, 7), s})
	checkWays(t, nil, look, way{none, nil})
	checkWays(t, nil, pick, way{none, nil})
	checkWays(t, s, api.Op{Kind: api.OpFront})
	if a, b := heap.Check(items(5, 8, 3, 7)), heap.Check(items(3, 7, 3, 8)); a != api.ErrOrder || b != api.ErrOrder {
		t.Error("check:", a, b)
	}
	if l := heap.Least(s, 1); !slices.Equal(l, items(3, 7)) {
		t.Error("least:", l)
	}
	for _, x := range []struct {
		key uint64
		at  int
		is  bool
	}{{5, 1, true}, {4, 1, false}, {9, 2, false}} {
		if at, is := heap.Place(s, x.key); at != x.at || is != x.is {
			t.Errorf("place of %d: %d %v", x.key, at, is)
		}
	}
}

// P7.1: sets of all sizes up to the greatest, and more; too many items come first, in whatever order they are.
func TestCheckSize(t *testing.T) {
	for _, n := range []int{0, 1, 2, 3, 1023, 1024} {
		if err := heap.Check(spread(n)); err != api.OK {
			t.Errorf("%d items: %v", n, err)
		}
	}
	for _, n := range []int{1025, 1026, 5000} {
		s := spread(n)
		if err := heap.Check(s); err != api.ErrFull {
			t.Errorf("%d items: %v", n, err)
		}
		slices.Reverse(s)
		if err := heap.Check(s); err != api.ErrFull {
			t.Errorf("%d items, falling: %v", n, err)
		}
	}
}

// P7.1: keys are in order at each place or not at all; what the items are besides does not matter.
func TestCheckOrder(t *testing.T) {
	for _, n := range []int{2, 3, 7, 1024} {
		for at := 1; at < n; at += max(1, n/9) {
			for _, back := range []uint64{0, 1} {
				s := spread(n)
				s[at].Key = s[at-1].Key - back
				if err := heap.Check(s); err != api.ErrOrder {
					t.Errorf("%d items, wrong at %d: %v", n, at, err)
				}
			}
		}
	}
	for _, s := range [][]api.Item{items(0, 0), items(0, 5, 1, 5), {{Key: 0, A: -1}, {Key: 1 << 63, A: math.MinInt}, {Key: math.MaxUint64}}, {{Key: math.MaxUint64}}, {{Key: 1<<63 - 1}, {Key: 1 << 63}}} {
		if err := heap.Check(s); err != api.OK {
			t.Errorf("%v: %v", s, err)
		}
	}
	for _, s := range [][]api.Item{items(0, 1, 0, 2), {{Key: math.MaxUint64}, {}}, {{Key: 1 << 63}, {Key: 1<<63 - 1}}, {{}, {Key: math.MaxUint64}, {Key: math.MaxUint64}}} {
		if err := heap.Check(s); err != api.ErrOrder {
			t.Errorf("%v: %v", s, err)
		}
	}
}

// P7.1: the first ones of any list, which need not be a set.
func TestLeast(t *testing.T) {
	for _, s := range [][]api.Item{nil, {}, items(3, 7), items(3, 7, 5, 8), items(5, 8, 3, 7, 3, 7), spread(1024), spread(1500)} {
		for _, n := range []int{math.MinInt, -2, -1, 0, 1, 2, 3, 4, 1023, 1024, 1025, 1499, 1500, 1501, math.MaxInt} {
			if l, want := heap.Least(s, n), s[:min(max(n, 0), len(s))]; !slices.Equal(l, want) {
				t.Errorf("%d items, least %d: %d of them, %v", len(s), n, len(l), few(l))
			}
		}
	}
}

// checkPlace holds a place against a look at each item of the list, one after the other.
func checkPlace(t *testing.T, s []api.Item, key uint64) {
	t.Helper()
	want := 0
	for want < len(s) && s[want].Key < key {
		want++
	}
	has := want < len(s) && s[want].Key == key
	if at, is := heap.Place(s, key); at != want || is != has {
		t.Errorf("%d items, %v, place of %d: %d %v, want %d %v", len(s), few(s), key, at, is, want, has)
	}
}

// P7.1: places in sets of all sizes: each item's, and those next to it.
func TestPlace(t *testing.T) {
	for _, n := range []int{0, 1, 2, 3, 4, 5, 6, 7, 8, 9, 31, 32, 33, 1000, 1023, 1024} {
		s := spread(n)
		for key := range uint64(3*n + 5) {
			checkPlace(t, s, key)
		}
		for _, key := range []uint64{1<<63 - 1, 1 << 63, math.MaxUint64} {
			checkPlace(t, s, key)
			checkPlace(t, append(s[:n:n], api.Item{Key: key}), key)
			checkPlace(t, append(s[:n:n], api.Item{Key: key}), key-1)
		}
	}
}

// P7.1: in lists that are no sets, all small ones and some great ones, the first item that is not less counts.
func TestPlaceInAnyList(t *testing.T) {
	for length, many := 0, 1; length <= 5; length, many = length+1, many*5 {
		for n := range many {
			var s []api.Item
			for i := range length {
				s = append(s, api.Item{Key: uint64(n % 5), A: i})
				n /= 5
			}
			for key := range uint64(6) {
				checkPlace(t, s, key)
			}
		}
	}
	long, falling, twice := spread(3000), spread(1024), append(spread(100), spread(100)...)
	slices.Reverse(falling)
	for key := range uint64(9010) {
		checkPlace(t, long, key)
		checkPlace(t, falling, key)
		checkPlace(t, twice, key)
	}
}

// P7.2: of all kinds of operations only three have an answer.
func TestKinds(t *testing.T) {
	for _, kind := range []int{0, -1, -4, -5, -6, api.OpPush, api.OpFront, api.OpDrop, api.OpAlloc, api.OpFree, 9, 14, 1<<32 + 4, math.MinInt, math.MinInt + 4, math.MaxInt} {
		for _, s := range [][]api.Item{nil, {}, items(3, 7), items(3, 7, 5, 8), spread(1024)} {
			checkWays(t, s, api.Op{Kind: kind, A: 7, B: 2, W: 3})
			checkWays(t, s, api.Op{Kind: kind})
		}
	}
}

// P7.2: a list that is no set has no answers, and nothing follows it.
func TestRefused(t *testing.T) {
	for _, s := range [][]api.Item{items(5, 8, 3, 7), items(3, 7, 3, 7), items(3, 7, 3, 8), items(1, 1, 2, 2, 4, 4, 3, 3), spread(1025), spread(3000)} {
		for _, op := range []api.Op{put(1, 0), put(2, 0), put(3, 7), put(4, 0), put(math.MaxUint64, 0), pick, look, {}, {Kind: api.OpFree}} {
			checkWays(t, s, op)
		}
	}
}

// P7.2: keys and values are any, and of an operation only the kind and what is put count.
func TestFields(t *testing.T) {
	for _, key := range []uint64{0, 1, 1<<63 - 1, 1 << 63, math.MaxUint64 - 1, math.MaxUint64} {
		for _, a := range []int{0, -1, 1 << 40, math.MinInt, math.MaxInt} {
			one, op := []api.Item{{Key: key, A: a}}, api.Op{Kind: api.OpPut, A: a, B: -9, W: key}
			checkWays(t, nil, op, way{api.Ans{}, one}, way{full, nil}, way{worn, nil})
			checkWays(t, one, op, way{double, one}, way{full, one}, way{worn, one})
			checkWays(t, []api.Item{{Key: key, A: ^a}}, op, way{double, []api.Item{{Key: key, A: ^a}}}, way{full, []api.Item{{Key: key, A: ^a}}}, way{worn, []api.Item{{Key: key, A: ^a}}})
			for _, other := range []api.Op{{}, {A: 5, B: 6, W: ^key}, {A: a, B: -1, W: key}} {
				other.Kind = api.OpPick
				checkWays(t, one, other, way{is(key, a), nil})
				checkWays(t, nil, other, way{none, nil})
				other.Kind = api.OpLook
				checkWays(t, one, other, way{is(key, a), one})
				checkWays(t, nil, other, way{none, nil})
			}
		}
	}
}

// P7.2: the greatest sets, and those that have room for one more.
func TestGreatest(t *testing.T) {
	s := spread(1024)
	for _, key := range []uint64{0, 1, 3, 1000, 3000, 3072, math.MaxUint64} {
		checkWays(t, s, put(key, 1), way{full, s}, way{worn, s})
	}
	for _, at := range []int{0, 1, 511, 512, 1022, 1023} {
		x := s[at]
		less := slices.Delete(slices.Clone(s), at, at+1)
		checkWays(t, s, put(x.Key, 1), way{double, s}, way{full, s}, way{worn, s})
		checkWays(t, less, put(x.Key, x.A), way{api.Ans{}, s}, way{full, less}, way{worn, less})
	}
	checkWays(t, s, pick, way{is(2, 7), s[1:]})
	checkWays(t, s, look, way{is(2, 7), s})
}

// P7.1, P7.2: what is handed out is new memory, and what is handed in stays as it is, to the end of its room.
func TestOwn(t *testing.T) {
	all := spread(8)
	before := slices.Clone(all)
	for n := range 8 {
		s := all[:n]
		var out [][]api.Item
		for key := range uint64(3*n + 5) {
			for _, ans := range []api.Ans{{}, full, worn, double} {
				next, _ := heap.Next(s, put(key, 5), ans)
				out = append(out, next)
			}
		}
		for _, op := range []api.Op{pick, look} {
			ans, _ := heap.Answer(s, op)
			next, has := heap.Next(s, op, ans)
			if !has {
				t.Error(n, op, ans)
			}
			out = append(out, next)
		}
		for most := range 9 {
			out = append(out, heap.Least(s, most))
		}
		heap.Place(s, 7)
		for _, l := range out {
			for i := range l[:cap(l)] {
				l[:cap(l)][i] = api.Item{Key: 99, A: 99}
			}
			if !slices.Equal(all, before) {
				t.Fatalf("%d items: the argument became %v", n, all)
			}
		}
	}
}
