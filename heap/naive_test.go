package heap_test

import (
	"cmp"
	"maps"
	"slices"
	"testing"

	"coxswain/api"
	"coxswain/heap"
)

// bag is a set as a map from keys to values.
type bag map[uint64]int

func (b bag) with(key uint64, a int) bag {
	c := maps.Clone(b)
	c[key] = a
	return c
}

func (b bag) without(key uint64) bag {
	c := maps.Clone(b)
	delete(c, key)
	return c
}

func (b bag) items() []api.Item {
	var s []api.Item
	for key, a := range b {
		s = append(s, api.Item{Key: key, A: a})
	}
	slices.SortFunc(s, func(x, y api.Item) int { return cmp.Compare(x.Key, y.Key) })
	return s
}

// ways returns all ways of an operation that is a put, a pick or a look.
func (b bag) ways(op api.Op) []way {
	same := b.items()
	switch _, held := b[op.W]; {
	case op.Kind == api.OpPut && held:
		return []way{{double, same}, {full, same}, {worn, same}}
	case op.Kind == api.OpPut && len(b) < 1024:
		return []way{{api.Ans{}, b.with(op.W, op.A).items()}, {full, same}, {worn, same}}
	case op.Kind == api.OpPut:
		return []way{{full, same}, {worn, same}}
	case len(b) == 0:
		return []way{{none, same}}
	}
	least := slices.Min(slices.Collect(maps.Keys(b)))
	after := same
	if op.Kind == api.OpPick {
		after = b.without(least).items()
	}
	return []way{{is(least, b[least]), after}}
}

// P7.2: all sets of keys up to 6, and each operation on them.
func TestAllSets(t *testing.T) {
	for n := range 1 << 7 {
		b := bag{}
		for key := range uint64(7) {
			if n>>key&1 == 1 {
				b[key] = int(key*key) - 9
			}
		}
		s := b.items()
		for key := range uint64(9) {
			checkWays(t, s, put(key, 5), b.ways(put(key, 5))...)
		}
		checkWays(t, s, pick, b.ways(pick)...)
		checkWays(t, s, look, b.ways(look)...)
	}
}

// does is P7.3: what is answered is possible, and the set after it is valid; it returns both.
func does(t *testing.T, s []api.Item, op api.Op) ([]api.Item, api.Ans) {
	t.Helper()
	ans, has := heap.Answer(s, op)
	next, is := heap.Next(s, op, ans)
	if !has || !is || heap.Check(next) != api.OK {
		t.Fatalf("%d items, %v: %v %v, next %v %v", len(s), op, ans, has, few(next), is)
	}
	return next, ans
}

// checkTaken puts items in the order of the list and takes them all: they come by their keys, each once.
func checkTaken(t *testing.T, l []api.Item) {
	t.Helper()
	var s []api.Item
	for _, x := range l {
		ans := api.Ans{}
		if s, ans = does(t, s, put(x.Key, x.A)); ans != (api.Ans{}) {
			t.Fatalf("%v is put: %v", x, ans)
		}
		if again, ans := does(t, s, put(x.Key, x.A+1)); ans != double || !slices.Equal(again, s) {
			t.Fatalf("%v is put again: %v", x, ans)
		}
	}
	var out []api.Item
	for range l {
		_, told := does(t, s, look)
		ans := api.Ans{}
		if s, ans = does(t, s, pick); told != ans {
			t.Fatalf("looked %v, picked %v", told, ans)
		}
		out = append(out, api.Item{Key: ans.W, A: ans.N})
	}
	if _, ans := does(t, s, pick); ans != none || len(s) != 0 {
		t.Fatal("past the last one:", ans, few(s))
	}
	want := slices.SortedFunc(slices.Values(l), func(x, y api.Item) int { return cmp.Compare(x.Key, y.Key) })
	if !slices.Equal(out, want) {
		t.Errorf("of %v were taken %v", few(l), few(out))
	}
}

// P7.3: items that are put in each order of up to 6 of them.
func TestAllOrders(t *testing.T) {
	var orders func(l, rest []api.Item)
	orders = func(l, rest []api.Item) {
		checkTaken(t, l)
		for i, x := range rest {
			orders(append(l[:len(l):len(l)], x), slices.Delete(slices.Clone(rest), i, i+1))
		}
	}
	orders(nil, spread(6))
}

// P7.3: the greatest sets, put in rising, in falling and in mixed order.
func TestManyTaken(t *testing.T) {
	s := spread(1024)
	checkTaken(t, s)
	slices.Reverse(s)
	checkTaken(t, s)
	x := mixer(88172645463325252)
	for i := range s {
		j := x.below(i + 1)
		s[i], s[j] = s[j], s[i]
	}
	checkTaken(t, s)
}

// P7.2, P7.3: long mixed runs, held against the naive set after each operation, with few keys and with many.
func TestMixed(t *testing.T) {
	x := mixer(362436069362436069)
	for _, keys := range []int{1, 2, 5, 40, 3000} {
		b, s := bag{}, []api.Item(nil)
		for step := range 1500 {
			op := []api.Op{pick, look, put(uint64(x.below(keys)), step), put(uint64(x.below(keys)), -step)}[x.below(4)]
			next, ans := does(t, s, op)
			ways := b.ways(op)
			if ans != ways[0].ans || !slices.Equal(next, ways[0].after) {
				t.Fatalf("%d keys, step %d, %v: %v, want %v", keys, step, op, ans, ways[0].ans)
			}
			if step%50 == 0 {
				checkWays(t, s, op, ways...)
			}
			s, b = next, bag{}
			for _, item := range s {
				b[item.Key] = item.A
			}
		}
	}
}

// mixer makes the same numbers in each run.
type mixer uint64

func (x *mixer) below(n int) int {
	*x ^= *x << 13
	*x ^= *x >> 7
	*x ^= *x << 17
	return int(uint64(*x) % uint64(n))
}
