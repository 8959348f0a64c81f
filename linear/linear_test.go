package linear_test

import (
	"math"
	"slices"
	"testing"

	"coxswain/api"
	"coxswain/linear"
)

// open is To of a call that has no answer.
const open = -1

func span(id, from, to int, op api.Op, ans api.Ans) api.Span {
	return api.Span{ID: id, From: from, To: to, Op: op, Ans: ans}
}

func push(w uint64) api.Op { return api.Op{Kind: api.OpPush, W: w} }

func put(key uint64, a int) api.Op { return api.Op{Kind: api.OpPut, W: key, A: a} }

func free(i int) api.Op { return api.Op{Kind: api.OpFree, A: i} }

var (
	front = api.Op{Kind: api.OpFront}
	drop  = api.Op{Kind: api.OpDrop}
	pick  = api.Op{Kind: api.OpPick}
	look  = api.Op{Kind: api.OpLook}
	alloc = api.Op{Kind: api.OpAlloc}

	fine   = api.Ans{}
	full   = api.Ans{Err: api.ErrFull}
	worn   = api.Ans{Err: api.ErrWorn}
	double = api.Ans{Err: api.ErrDouble}
	none   = api.Ans{Err: api.ErrNone}
)

func word(w uint64) api.Ans { return api.Ans{W: w} }

func item(key uint64, a int) api.Ans { return api.Ans{N: a, W: key} }

func index(i int) api.Ans { return api.Ans{N: i} }

// check is P9.1 and P9.2: which order is the first, or that none fits.
func check(t *testing.T, kind, room int, l []api.Span, is bool, want ...int) {
	t.Helper()
	got, has, err := linear.Order(kind, room, l)
	if !slices.Equal(got, want) || has != is || err != api.OK {
		t.Errorf("model %d of %d, %v: %v %v %v, want %v %v", kind, room, l, got, has, err, want, is)
	}
	if is {
		checkFits(t, kind, room, l, true, want...)
	}
}

func checkFits(t *testing.T, kind, room int, l []api.Span, want bool, order ...int) {
	t.Helper()
	if got, err := linear.Fits(kind, room, l, order); got != want || err != api.OK {
		t.Errorf("model %d of %d, %v: %v fits: %v %v, want %v", kind, room, l, order, got, err, want)
	}
}

// checkRefused is P9.1 and P9.2: the error of calls that are not searched, whatever the order is.
func checkRefused(t *testing.T, kind, room int, l []api.Span, want api.Errno) {
	t.Helper()
	if got, has, err := linear.Order(kind, room, l); len(got) != 0 || has || err != want {
		t.Errorf("model %d of %d, %d calls: %v %v %v, want %v", kind, room, len(l), got, has, err, want)
	}
	for _, order := range [][]int{nil, {1}, {1, 1}, {77}} {
		if got, err := linear.Fits(kind, room, l, order); got || err != want {
			t.Errorf("model %d of %d, %d calls, %v: %v %v, want %v", kind, room, len(l), order, got, err, want)
		}
	}
}

// P9.1, P9.2: the chapter's examples.
func TestExample(t *testing.T) {
	check(t, api.ModelFifo, 2, []api.Span{span(1, 0, 3, push(5), fine), span(2, 1, 2, front, word(5))}, true, 1, 2)
	check(t, api.ModelFifo, 2, []api.Span{span(1, 2, 3, push(5), fine), span(2, 0, 1, front, word(5))}, false)

	heap := []api.Span{span(1, 0, 9, put(4, 0), fine), span(2, 1, 2, put(3, 0), fine), span(3, 3, 4, pick, item(4, 0)), span(4, 5, 6, look, item(3, 0))}
	check(t, api.ModelHeap, 1, heap, false)
	heap[1].To = 9
	check(t, api.ModelHeap, 1, heap[:3], true, 1, 3, 2)

	pool := []api.Span{span(1, 0, 1, alloc, index(0)), span(2, 4, 5, alloc, index(0)), span(3, 2, open, free(0), fine)}
	check(t, api.ModelPool, 1, pool, true, 1, 3, 2)
	check(t, api.ModelPool, 1, pool[:2], false)

	one := []api.Span{span(1, 0, 1, push(5), fine)}
	checkRefused(t, 4, 1, one, api.ErrArg)
	checkRefused(t, 1, 0, one, api.ErrRange)
	checkRefused(t, 1, 1, pushes(11), api.ErrLong)
	checkRefused(t, 3, 1, allocs(3), api.ErrLong)
	checkRefused(t, 1, 1, append(one, one...), api.ErrDouble)
	checkOrderRefused(t, one, []int{1, 1}, api.ErrDouble)
	checkOrderRefused(t, one, []int{9}, api.ErrUnknown)
}

// pushes makes n pending calls, with the IDs from 1 on.
func pushes(n int) []api.Span {
	var l []api.Span
	for i := range n {
		l = append(l, span(i+1, i, open, push(uint64(i)), fine))
	}
	return l
}

func allocs(n int) []api.Span {
	l := pushes(n)
	for i := range l {
		l[i].Op = alloc
	}
	return l
}

func checkOrderRefused(t *testing.T, l []api.Span, order []int, want api.Errno) {
	t.Helper()
	if got, err := linear.Fits(api.ModelFifo, 1, l, order); got || err != want {
		t.Errorf("%v: %v %v, want %v", order[:min(9, len(order))], got, err, want)
	}
}

// P9.1, P9.2: which models, rooms and lists there are, and which error comes first.
func TestRefused(t *testing.T) {
	same := append(pushes(2), pushes(1)...)
	for _, kind := range []int{0, 4, -1, 5, math.MinInt, math.MaxInt} {
		checkRefused(t, kind, 1, nil, api.ErrArg)
		checkRefused(t, kind, 0, same, api.ErrArg)
		checkRefused(t, kind, 65, allocs(11), api.ErrArg)
	}
	for kind := api.ModelFifo; kind <= api.ModelPool; kind++ {
		for _, room := range []int{0, -1, 65, 1024, math.MinInt, math.MaxInt} {
			checkRefused(t, kind, room, nil, api.ErrRange)
			checkRefused(t, kind, room, same, api.ErrRange)
			checkRefused(t, kind, room, allocs(11), api.ErrRange)
		}
		for _, room := range []int{1, 2, 63, 64} {
			check(t, kind, room, nil, true)
			check(t, kind, room, pushes(10), true)
			checkRefused(t, kind, room, same, api.ErrDouble)
			checkRefused(t, kind, room, pushes(11), api.ErrLong)
			checkRefused(t, kind, room, make([]api.Span, 11), api.ErrLong)
			checkRefused(t, kind, room, pushes(3000), api.ErrLong)
		}
	}
	checkRefused(t, api.ModelPool, 1, append(allocs(3), allocs(3)...), api.ErrLong)
	checkRefused(t, api.ModelPool, 1, append(allocs(2), allocs(2)[0]), api.ErrLong)
	checkRefused(t, api.ModelPool, 1, append(allocs(2), span(1, 0, 1, alloc, full)), api.ErrDouble)
}

// P9.1: only pending allocs of a pool are too many as three.
func TestAllocs(t *testing.T) {
	check(t, api.ModelFifo, 1, allocs(10), true)
	check(t, api.ModelHeap, 1, allocs(10), true)
	check(t, api.ModelPool, 1, allocs(2), true)
	answered := allocs(10)
	for i := 2; i < len(answered); i++ {
		answered[i].To, answered[i].Ans = 20+i, index(i)
	}
	check(t, api.ModelPool, 10, answered, true, 1, 2, 3, 4, 5, 6, 7, 8, 9, 10)
	answered[5].To = open
	checkRefused(t, api.ModelPool, 10, answered, api.ErrLong)
}

// P9.2: IDs that no call has come first, wherever they are, then those that come twice.
func TestOrderRefused(t *testing.T) {
	l := pushes(3)
	for _, order := range [][]int{{0}, {4}, {-1}, {1, 2, 3, 4}, {1, 1, 9}, {9, 1, 1}, {9, 9}, {math.MaxInt}, {math.MinInt, 2}} {
		checkOrderRefused(t, l, order, api.ErrUnknown)
		checkOrderRefused(t, nil, order, api.ErrUnknown)
	}
	for _, order := range [][]int{{1, 1}, {3, 2, 1, 2}, {1, 2, 3, 3}, {2, 1, 2, 3}, make([]int, 100000)} {
		for i := range order {
			order[i] = max(order[i], 1)
		}
		checkOrderRefused(t, l, order, api.ErrDouble)
		order[len(order)-1] = 4
		checkOrderRefused(t, l, order, api.ErrUnknown)
	}
}

// P9.1, P9.2: every number is an ID, and 0 is one too; what counts is the order of the list.
func TestIDs(t *testing.T) {
	l := []api.Span{span(math.MaxInt, 0, 9, push(1), fine), span(0, 0, 9, push(1), fine), span(math.MinInt, 0, 9, push(1), fine), span(-1, 0, 9, push(1), fine)}
	check(t, api.ModelFifo, 4, l, true, math.MaxInt, 0, math.MinInt, -1)
	checkFits(t, api.ModelFifo, 4, l, true, -1, math.MinInt, 0, math.MaxInt)
	checkFits(t, api.ModelFifo, 4, l, false, -1, math.MinInt, 0)
	slices.Reverse(l)
	check(t, api.ModelFifo, 4, l, true, -1, math.MinInt, 0, math.MaxInt)
}

// P9.1: who is before whom, by From and To, of spans that no history has too.
func TestAhead(t *testing.T) {
	for _, x := range []struct {
		aFrom, aTo, bFrom, bTo int
		ab, ba                 bool
	}{
		{0, 1, 2, 3, true, false}, {2, 3, 0, 1, false, true},
		{0, 2, 1, 3, true, true}, {0, 3, 1, 2, true, true}, {0, 2, 2, 3, true, true},
		{0, 0, 1, 1, true, false}, {5, 5, 5, 5, true, true},
		{7, 3, 5, 9, true, false}, {7, 6, 5, 9, true, true},
		{9, 1, 0, 5, false, true}, {9, 1, 0, 9, true, true}, {9, 1, 9, 1, false, false}, {4, 3, 4, 9, true, false},
		{-9, 0, 1, 1, true, false}, {-9, 0, 0, 1, true, true},
		{math.MinInt, 0, math.MaxInt, math.MaxInt, true, false},
	} {
		l := []api.Span{span(1, x.aFrom, x.aTo, push(1), fine), span(2, x.bFrom, x.bTo, push(1), fine)}
		checkFits(t, api.ModelFifo, 2, l, x.ab, 1, 2)
		checkFits(t, api.ModelFifo, 2, l, x.ba, 2, 1)
		switch {
		case x.ab:
			check(t, api.ModelFifo, 2, l, true, 1, 2)
		case x.ba:
			check(t, api.ModelFifo, 2, l, true, 2, 1)
		default:
			check(t, api.ModelFifo, 2, l, false)
		}
	}
}

// P9.1: one call is no pair: it may be where its answer is ahead of it.
func TestAlone(t *testing.T) {
	check(t, api.ModelFifo, 1, []api.Span{span(1, 9, 0, push(1), fine)}, true, 1)
}

// P9.1, P9.2: a pending call may be left out, and what is there as its answer does not count.
func TestPending(t *testing.T) {
	for _, to := range []int{-1, -2, math.MinInt} {
		for _, ans := range []api.Ans{fine, full, word(9), index(7), none} {
			l := []api.Span{span(1, 0, to, push(5), ans), span(2, 1, to, drop, ans), span(3, 9, 10, front, none)}
			check(t, api.ModelFifo, 1, l, true, 1, 2, 3)
			checkFits(t, api.ModelFifo, 1, l, true, 3)
			checkFits(t, api.ModelFifo, 1, l, true, 3, 1)
			checkFits(t, api.ModelFifo, 1, l, true, 3, 1, 2)
			checkFits(t, api.ModelFifo, 1, l, false, 1, 3)
			checkFits(t, api.ModelFifo, 1, l, false, 3, 2)
			checkFits(t, api.ModelFifo, 1, l, false, 1)
			checkFits(t, api.ModelFifo, 1, l, false)
		}
	}
}

// P9.1, P9.2: a pending call has an answer with OK, or it cannot be there.
func TestPendingIsGranted(t *testing.T) {
	for _, x := range []struct {
		kind, room int
		first, op  api.Op
		ans        api.Ans
		want       bool
	}{
		{1, 2, push(5), push(6), fine, true}, {1, 1, push(5), push(6), fine, false},
		{1, 1, push(5), front, fine, true}, {1, 1, push(5), drop, fine, true}, {1, 1, front, front, none, false}, {1, 1, front, drop, none, false},
		{2, 1, put(5, 1), put(6, 1), fine, true}, {2, 1, put(5, 1), put(5, 2), fine, false},
		{2, 1, put(5, 1), pick, fine, true}, {2, 1, put(5, 1), look, fine, true}, {2, 1, look, pick, none, false}, {2, 1, look, look, none, false},
		{3, 2, alloc, alloc, index(1), true}, {3, 1, alloc, alloc, index(0), false},
		{3, 1, alloc, free(0), index(0), true}, {3, 2, alloc, free(0), index(1), false}, {3, 1, alloc, free(7), full, true},
		{3, 1, alloc, free(1023), full, true}, {3, 1, alloc, free(1024), full, false}, {3, 1, alloc, free(-1), full, false},
		{1, 1, push(5), put(1, 1), fine, false}, {1, 1, push(5), api.Op{}, fine, false}, {2, 1, put(1, 1), push(1), fine, false},
		{2, 1, put(1, 1), alloc, fine, false}, {3, 1, alloc, drop, index(0), false}, {3, 1, alloc, api.Op{Kind: math.MinInt}, full, false},
	} {
		l := []api.Span{span(1, 0, 1, x.first, x.ans), span(2, 2, open, x.op, full)}
		check(t, x.kind, x.room, l, true, 1)
		checkFits(t, x.kind, x.room, l, x.want, 1, 2)
	}
}

// P9.1: answers with errors are of the model like others: a queue is full at its room, a ready queue and a pool may always be.
func TestErrorsAreAnswers(t *testing.T) {
	for _, x := range []struct {
		kind, room int
		op         api.Op
		ans        api.Ans
		want       bool
	}{
		{1, 64, push(1), full, false}, {1, 64, push(1), worn, false}, {1, 64, front, none, true}, {1, 64, drop, none, true}, {1, 1, drop, fine, false},
		{2, 1, put(1, 1), full, true}, {2, 1, put(1, 1), worn, true}, {2, 1, put(1, 1), double, false}, {2, 1, pick, none, true}, {2, 1, look, fine, false},
		{3, 64, alloc, full, true}, {3, 64, alloc, worn, true}, {3, 64, alloc, index(63), true}, {3, 64, alloc, index(64), false}, {3, 64, alloc, index(-1), false},
		{3, 64, free(63), double, true}, {3, 64, free(64), double, false}, {3, 64, free(64), fine, true}, {3, 64, free(63), fine, false},
		{3, 64, free(1023), fine, true}, {3, 64, free(1024), api.Ans{Err: api.ErrRange}, true}, {3, 64, free(-1), api.Ans{Err: api.ErrRange}, true}, {3, 1, free(1024), fine, false},
		{3, 1, alloc, api.Ans{W: 1}, false}, {3, 1, alloc, api.Ans{Err: api.ErrFull, N: 1}, false},
		{1, 1, pick, none, false}, {2, 1, front, none, false}, {3, 1, api.Op{}, fine, false},
	} {
		l := []api.Span{span(3, 0, 1, x.op, x.ans)}
		if x.want {
			check(t, x.kind, x.room, l, true, 3)
		} else {
			check(t, x.kind, x.room, l, false)
		}
		checkFits(t, x.kind, x.room, l, x.want, 3)
	}
}

// P9.1: of a fifo, the room is the room; a heap has no such room.
func TestRoom(t *testing.T) {
	for room := 1; room <= 10; room++ {
		var fifo, heap []api.Span
		for i := range 10 {
			ans := fine
			if i >= room {
				ans = full
			}
			fifo = append(fifo, span(i, 0, 1, push(uint64(i)), ans))
			heap = append(heap, span(i, 0, 1, put(uint64(i), i), fine))
		}
		check(t, api.ModelFifo, room, fifo, true, 0, 1, 2, 3, 4, 5, 6, 7, 8, 9)
		fifo[0].Ans, fifo[9].Ans = full, fine
		// The first one is refused: the last one has to be there ahead of it, and so has any other one that was not.
		check(t, api.ModelFifo, room, fifo, room < 10, rotated(room)...)
		check(t, api.ModelFifo, room, heap, false)
		check(t, api.ModelHeap, room, heap, true, 0, 1, 2, 3, 4, 5, 6, 7, 8, 9)
	}
}

// rotated is the first order of ten pushes of which the room-th and those behind it are refused but for the last one, and the first one is.
func rotated(room int) []int {
	var l []int
	if room == 10 {
		return l
	}
	for i := 1; i < room; i++ {
		l = append(l, i)
	}
	l = append(l, 9, 0)
	for i := room; i < 9; i++ {
		l = append(l, i)
	}
	return l
}

// P9.1: which index a pending alloc gets is not settled by what would come first, but by what lets the least order fit.
func TestChoiceIsNoOrder(t *testing.T) {
	l := []api.Span{span(1, 0, open, alloc, fine), span(2, 1, 8, free(1), fine), span(3, 2, 9, free(0), fine), span(4, 3, open, alloc, fine)}
	check(t, api.ModelPool, 2, l, true, 1, 2, 4, 3)
	checkFits(t, api.ModelPool, 2, l, true, 1, 3, 4, 2)
	checkFits(t, api.ModelPool, 2, l, true, 1, 4, 3, 2)
	checkFits(t, api.ModelPool, 2, l, false, 1, 2, 3, 4)
	checkFits(t, api.ModelPool, 2, l, false, 2, 1, 3, 4)
}

// P9.1, P9.2: pending allocs may get indices that no call names, as many as there are.
func TestUnnamed(t *testing.T) {
	for room := 1; room <= 64; room++ {
		l := append([]api.Span{span(3, 0, 1, free(0), double)}, allocs(2)...)
		check(t, api.ModelPool, room, l, true, 3)
		checkFits(t, api.ModelPool, room, l, room > 1, 1, 3)
		checkFits(t, api.ModelPool, room, l, room > 2, 1, 2, 3)
		checkFits(t, api.ModelPool, room, l, true, 3, 2)
		checkFits(t, api.ModelPool, room, l, room > 1, 3, 2, 1)
		l[0].Ans = fine
		check(t, api.ModelPool, room, l, true, 1, 3)
		checkFits(t, api.ModelPool, room, l, room > 1, 1, 2, 3)
		checkFits(t, api.ModelPool, room, l, true, 2, 3, 1)
	}
}

// P9.1: of words that no front tells, none is another one; of those that one tells, each is.
func TestWords(t *testing.T) {
	for _, w := range []uint64{0, 1, 2, math.MaxUint64} {
		l := []api.Span{
			span(1, 0, 9, push(w), fine), span(2, 0, 9, push(w+1), fine), span(3, 0, 9, push(w+2), fine),
			span(4, 0, 9, drop, fine), span(5, 10, 11, front, word(w+2)),
		}
		check(t, api.ModelFifo, 3, l, true, 1, 3, 2, 4, 5)
		l[4].Ans = word(w + 3)
		check(t, api.ModelFifo, 3, l, false)
		l[4].Ans = word(w)
		check(t, api.ModelFifo, 3, l, true, 2, 1, 3, 4, 5)
		l[2].Ans = full
		check(t, api.ModelFifo, 2, l, true, 2, 1, 3, 4, 5)
		l[4].Ans = full
		check(t, api.ModelFifo, 2, l, false)
	}
}

// P9.3: the error of the history comes first, then those of its calls.
func TestLinear(t *testing.T) {
	h := []api.Event{{ID: 1, Op: push(5)}, {ID: 2, Op: front}, {ID: 2, Answer: true, Ans: word(5)}, {ID: 1, Answer: true}, {ID: 3, Op: drop}}
	long := make([]api.Event, 4097)
	eleven := make([]api.Event, 11)
	for i := range eleven {
		eleven[i].ID = i
	}
	three := slices.Clone(eleven[:3])
	for i := range three {
		three[i].Op = alloc
	}
	for _, x := range []struct {
		kind, room int
		h          []api.Event
		want       bool
		err        api.Errno
	}{
		{1, 1, h, true, api.OK}, {1, 1, nil, true, api.OK}, {1, 1, h[:3], true, api.OK}, {1, 1, h[1:3], false, api.OK},
		{2, 1, h, false, api.OK}, {3, 1, h, false, api.OK}, {2, 1, nil, true, api.OK}, {3, 1, h[:2], true, api.OK},
		{1, 1, h[2:], false, api.ErrUnknown}, {9, 0, h[2:], false, api.ErrUnknown},
		{1, 1, append(h[:5:5], h[0]), false, api.ErrDouble}, {1, 1, append(h[:5:5], h[2]), false, api.ErrDouble}, {0, 0, append(h[:5:5], h[0]), false, api.ErrDouble},
		{1, 1, long, false, api.ErrLong}, {0, 0, long, false, api.ErrLong},
		{0, 1, h, false, api.ErrArg}, {4, 0, h, false, api.ErrArg}, {4, 1, eleven, false, api.ErrArg},
		{1, 0, h, false, api.ErrRange}, {1, 65, h, false, api.ErrRange}, {1, 65, eleven, false, api.ErrRange},
		{1, 64, eleven, false, api.ErrLong}, {1, 64, eleven[:10], true, api.OK}, {3, 64, three, false, api.ErrLong}, {3, 64, three[:2], true, api.OK}, {2, 64, three, true, api.OK},
	} {
		if got, err := linear.Linear(x.kind, x.room, x.h); got != x.want || err != x.err {
			t.Errorf("model %d of %d, %d events: %v %v, want %v %v", x.kind, x.room, len(x.h), got, err, x.want, x.err)
		}
	}
}

// P9.1, P9.2, P9.3: what is handed out is new memory, and what is handed in stays as it is, to the end of its room.
func TestOwn(t *testing.T) {
	room := []api.Span{span(1, 0, 9, push(7), fine), span(2, 0, 9, push(8), fine), span(3, 0, 9, front, word(8)), span(4, 0, open, drop, fine), span(5, 0, 1, drop, fine)}
	events := []api.Event{{ID: 1, Op: push(7)}, {ID: 1, Answer: true}, {ID: 2, Op: drop}, {ID: 9, Answer: true}}
	asked := []int{2, 3, 1, 4, 6}
	before, beforeEvents, beforeAsked := slices.Clone(room), slices.Clone(events), slices.Clone(asked)
	for kind := api.ModelFifo; kind <= api.ModelPool; kind++ {
		for range 2 {
			order, is, err := linear.Order(kind, 2, room[:4])
			if kind == api.ModelFifo && (!is || !slices.Equal(order, []int{1, 2, 4, 3})) || err != api.OK {
				t.Error("order:", kind, order, is, err)
			}
			for i := range order[:cap(order)] {
				order[:cap(order)][i] = 99
			}
			if fits, err := linear.Fits(kind, 2, room[:4], asked[:3]); fits != (kind == api.ModelFifo) || err != api.OK {
				t.Error("fits:", kind, fits, err)
			}
			linear.Linear(kind, 2, events[:3])
			if !slices.Equal(room, before) || !slices.Equal(events, beforeEvents) || !slices.Equal(asked, beforeAsked) {
				t.Fatal("arguments:", room, events, asked)
			}
		}
	}
}
