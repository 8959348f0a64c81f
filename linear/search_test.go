package linear

import (
	"slices"
	"testing"

	"coxswain/api"
)

func call(id, from, to, kind, a int, w uint64, ans api.Ans) api.Span {
	return api.Span{ID: id, From: from, To: to, Op: api.Op{Kind: kind, A: a, W: w}, Ans: ans}
}

// P9.1: all orders that fit come, each once, the least one first, and who has seen enough may leave.
func TestLeave(t *testing.T) {
	l := []api.Span{
		call(1, 0, -1, api.OpDrop, 0, 0, api.Ans{}),
		call(2, 0, 9, api.OpPush, 0, 5, api.Ans{}),
		call(3, 0, 9, api.OpPush, 0, 6, api.Ans{}),
	}
	want := [][]int{{1, 0, 2}, {1, 2}, {1, 2, 0}, {2, 0, 1}, {2, 1}, {2, 1, 0}}
	for leave := 1; leave <= len(want)+1; leave++ {
		var got [][]int
		for order := range finderOf(api.ModelFifo, 2, l).orders() {
			got = append(got, order)
			if len(got) == leave {
				break
			}
		}
		if !slices.EqualFunc(got, want[:min(leave, len(want))], slices.Equal[[]int]) {
			t.Errorf("left after %d: %v", leave, got)
		}
	}
}

// P9.1: an order comes once, however many choices of indices let it fit.
func TestOnce(t *testing.T) {
	l := []api.Span{
		call(1, 0, -1, api.OpAlloc, 0, 0, api.Ans{}),
		call(2, 0, -1, api.OpAlloc, 0, 0, api.Ans{}),
		call(3, 5, 9, api.OpFree, 0, 0, api.Ans{}),
	}
	want := [][]int{{0, 1, 2}, {0, 2}, {0, 2, 1}, {1, 0, 2}, {1, 2}, {1, 2, 0}}
	got := slices.Collect(finderOf(api.ModelPool, 64, l).orders())
	if !slices.EqualFunc(got, want, slices.Equal[[]int]) {
		t.Error(got)
	}
}

// P9.1: each order is a list of its own: those that come later leave the earlier ones as they are.
func TestOrdersStay(t *testing.T) {
	var l []api.Span
	for i := range 5 {
		l = append(l, call(i, 0, -1, api.OpPush, 0, uint64(i), api.Ans{}))
	}
	got := slices.Collect(finderOf(api.ModelFifo, 64, l).orders())
	if many := 1 + 5 + 5*4 + 5*4*3 + 5*4*3*2 + 5*4*3*2; len(got) != many {
		t.Errorf("%d orders, want %d", len(got), many)
	}
	for i := 1; i < len(got); i++ {
		if slices.Compare(got[i-1], got[i]) >= 0 {
			t.Fatalf("%v comes ahead of %v", got[i-1], got[i])
		}
	}
}

// P9.1: a state to which two choices lead is followed once.
func TestStatesOnce(t *testing.T) {
	l := []api.Span{call(1, 0, -1, api.OpAlloc, 0, 0, api.Ans{}), call(2, 0, -1, api.OpAlloc, 0, 0, api.Ans{})}
	s := searchOf(poolModel(2, l), l)
	one := s.after(0, []state[int]{s.model.first}, 0)
	both := s.after(set(0).with(0), one, 1)
	if len(one) != 2 || len(both) != 1 || both[0].many != 0 {
		t.Error(one, both)
	}
}

// looks returns how often a search that finds nothing asks its model.
func looks[T comparable](t *testing.T, s search[T]) int {
	t.Helper()
	many, next := 0, s.model.next
	s.model.next = func(x state[T], c api.Span) []state[T] {
		many++
		return next(x, c)
	}
	for order := range s.orders() {
		t.Fatal("an order fits:", order)
	}
	return many
}

// worst makes ten calls that all overlap, of which the last one cannot be answered as it was.
func worst(last api.Span, many int, other func(i int) api.Span) []api.Span {
	var l []api.Span
	for i := range many {
		l = append(l, other(i))
	}
	return append(l, last)
}

// P9.1: the longest searches end soon, for nothing is tried again that was tried without success: there are a thousand sets of calls, and millions of orders.
func TestNothingTwice(t *testing.T) {
	const most = 100000
	pushes := func(i int) api.Span { return call(i, 0, 9, api.OpPush, 0, uint64(i), api.Ans{}) }
	bad := worst(call(99, 0, 9, api.OpFront, 0, 0, api.Ans{W: 50}), 9, pushes)
	if n := looks(t, searchOf(fifoModel(64), alike(bad))); n > most {
		t.Error("words that no front tells:", n)
	}
	for told := range 5 {
		l := worst(call(99, 0, 9, api.OpFront, 0, 0, api.Ans{W: 50}), 9-told, pushes)
		for i := range told {
			l = append(l, call(50+i, 0, 9, api.OpFront, 0, 0, api.Ans{W: uint64(i)}))
		}
		if n := looks(t, searchOf(fifoModel(64), alike(l))); n > most {
			t.Errorf("%d words are told: %d", told, n)
		}
	}
	puts := func(i int) api.Span {
		if i%2 == 1 {
			return call(i, 0, -1, api.OpPick, 0, 0, api.Ans{})
		}
		return call(i, 0, 9, api.OpPut, i, uint64(i), api.Ans{})
	}
	if n := looks(t, searchOf(heapModel(), worst(call(99, 0, 9, api.OpLook, 0, 0, api.Ans{W: 50}), 9, puts))); n > most {
		t.Error("puts and picks:", n)
	}
	allocs := func(i int) api.Span {
		if i < mostPendingAllocs {
			return call(i, 0, -1, api.OpAlloc, 0, 0, api.Ans{})
		}
		return call(i, 0, 9, api.OpAlloc, 0, 0, api.Ans{N: 7 * i})
	}
	l := worst(call(99, 0, 9, api.OpAlloc, 0, 0, api.Ans{N: 64}), 9, allocs)
	if n := looks(t, searchOf(poolModel(64, l), l)); n > most {
		t.Error("allocs:", n)
	}
}

// P9.1: no state of a model is greater than what a value holds, with as many calls as there may be.
func TestStateHolds(t *testing.T) {
	var l []api.Span
	for i := range api.MaxSearch {
		l = append(l, call(i, i, -1, api.OpFree, 63-i, 0, api.Ans{}))
	}
	for i := range mostPendingAllocs {
		l[i].Op.Kind = api.OpAlloc
	}
	for room := 1; room <= api.MaxJobs; room++ {
		m := poolModel(room, l)
		if m.first.many > api.MaxSearch {
			t.Errorf("room %d: %d indices", room, m.first.many)
		}
	}
	var full []int
	for i := range api.MaxSearch {
		full = append(full, i)
	}
	if got := stateOf(full).list(); !slices.Equal(got, full) {
		t.Error(got)
	}
}
