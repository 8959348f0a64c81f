package linear_test

import (
	"cmp"
	"slices"
	"testing"

	"coxswain/api"
	"coxswain/event"
	"coxswain/linear"
)

// outcome is an answer that a naive model may give, and its state after it: items in their order, of which a fifo uses the keys, and a pool the values.
type outcome struct {
	ans   api.Ans
	after []api.Item
}

func has(s []api.Item, x func(api.Item) bool) bool { return slices.ContainsFunc(s, x) }

func naiveFifo(room int, s []api.Item, op api.Op) []outcome {
	switch {
	case op.Kind == api.OpPush && len(s) == room:
		return []outcome{{full, s}}
	case op.Kind == api.OpPush:
		return []outcome{{fine, append(slices.Clone(s), api.Item{Key: op.W})}}
	case op.Kind != api.OpFront && op.Kind != api.OpDrop:
		return nil
	case len(s) == 0:
		return []outcome{{none, s}}
	case op.Kind == api.OpFront:
		return []outcome{{word(s[0].Key), s}}
	}
	return []outcome{{fine, s[1:]}}
}

func naiveHeap(s []api.Item, op api.Op) []outcome {
	switch {
	case op.Kind == api.OpPut && has(s, func(x api.Item) bool { return x.Key == op.W }):
		return []outcome{{double, s}, {full, s}, {worn, s}}
	case op.Kind == api.OpPut:
		more := append(slices.Clone(s), api.Item{Key: op.W, A: op.A})
		slices.SortFunc(more, func(x, y api.Item) int { return cmp.Compare(x.Key, y.Key) })
		return []outcome{{fine, more}, {full, s}, {worn, s}}
	case op.Kind != api.OpPick && op.Kind != api.OpLook:
		return nil
	case len(s) == 0:
		return []outcome{{none, s}}
	case op.Kind == api.OpLook:
		return []outcome{{item(s[0].Key, s[0].A), s}}
	}
	return []outcome{{item(s[0].Key, s[0].A), s[1:]}}
}

func naivePool(s []api.Item, op api.Op) []outcome {
	switch {
	case op.Kind == api.OpAlloc:
		var l []outcome
		for i, x := range s {
			l = append(l, outcome{index(x.A), slices.Delete(slices.Clone(s), i, i+1)})
		}
		return append(l, outcome{full, s}, outcome{worn, s})
	case op.Kind != api.OpFree:
		return nil
	case op.A < 0 || op.A > 1023:
		return []outcome{{api.Ans{Err: api.ErrRange}, s}}
	case has(s, func(x api.Item) bool { return x.A == op.A }):
		return []outcome{{double, s}}
	}
	return []outcome{{fine, append(slices.Clone(s), api.Item{A: op.A})}}
}

// naive is one of the three models, with its room.
type naive struct{ kind, room int }

func (m naive) first() []api.Item {
	var s []api.Item
	if m.kind == api.ModelPool {
		for i := range m.room {
			s = append(s, api.Item{A: i})
		}
	}
	return s
}

func (m naive) outcomes(s []api.Item, op api.Op) []outcome {
	switch m.kind {
	case api.ModelFifo:
		return naiveFifo(m.room, s, op)
	case api.ModelHeap:
		return naiveHeap(s, op)
	}
	return naivePool(s, op)
}

// answered reports whether these calls, in this order, may have their answers from a state on.
func (m naive) answered(s []api.Item, l []api.Span, order []int) bool {
	if len(order) == 0 {
		return true
	}
	c := l[order[0]]
	for _, o := range m.outcomes(s, c.Op) {
		if (c.To < 0 && o.ans.Err == api.OK || c.To >= 0 && o.ans == c.Ans) && m.answered(o.after, l, order[1:]) {
			return true
		}
	}
	return false
}

// fits is what the chapter says of an order, word by word.
func (m naive) fits(l []api.Span, order []int) bool {
	for i, c := range l {
		if c.To >= 0 && !slices.Contains(order, i) {
			return false
		}
	}
	for n, i := range order {
		for _, later := range order[n+1:] {
			if l[later].To >= 0 && l[later].To < l[i].From {
				return false
			}
		}
	}
	return m.answered(m.first(), l, order)
}

// everyOrder yields each order of some of n calls, the least one first.
func everyOrder(n int, yield func([]int)) {
	var more func(order []int)
	more = func(order []int) {
		yield(order)
		for i := range n {
			if !slices.Contains(order, i) {
				more(append(order[:len(order):len(order)], i))
			}
		}
	}
	more(nil)
}

// checkAll is P9.1 and P9.2: each order of these calls fits as it does by the chapter's words, and the first one that does is found. It returns how many fit.
func checkAll(t *testing.T, m naive, l []api.Span) int {
	t.Helper()
	many := 0
	var first []int
	everyOrder(len(l), func(order []int) {
		var ids []int
		for _, i := range order {
			ids = append(ids, l[i].ID)
		}
		want := m.fits(l, order)
		if got, err := linear.Fits(m.kind, m.room, l, ids); got != want || err != api.OK {
			t.Fatalf("%v %v: %v fits: %v %v, want %v", m, l, ids, got, err, want)
		}
		if want && many == 0 {
			first = ids
		}
		if want {
			many++
		}
	})
	got, is, err := linear.Order(m.kind, m.room, l)
	if !slices.Equal(got, first) || is != (many > 0) || err != api.OK {
		t.Fatalf("%v %v: %v %v %v, want %v", m, l, got, is, err, first)
	}
	return many
}

// mixer makes the same numbers in each run.
type mixer uint64

func (x *mixer) below(n int) int {
	*x ^= *x << 13
	*x ^= *x >> 7
	*x ^= *x << 17
	return int(uint64(*x) % uint64(n))
}

// op makes an operation, most often one of the model.
func (x *mixer) op(m naive) api.Op {
	if x.below(30) == 0 {
		return api.Op{Kind: x.below(10), A: x.below(3), B: x.below(3), W: uint64(x.below(3))}
	}
	w := uint64(x.below(3))
	return [][]api.Op{
		{push(w), push(w), front, drop},
		{put(w, x.below(2)), put(w, x.below(2)), pick, look},
		{alloc, alloc, free(x.below(m.room + 1)), free(x.below(m.room+3) - 1)},
	}[m.kind-1][x.below(4)]
}

// ans makes an answer, most often one that there may be.
func (x *mixer) ans(op api.Op) api.Ans {
	switch l := []api.Ans{fine, full, worn, double, none, {Err: api.ErrRange}, {N: 1, W: 1}}; {
	case x.below(4) == 0:
		return l[x.below(len(l))]
	case op.Kind == api.OpFront:
		return word(uint64(x.below(3)))
	case op.Kind == api.OpPick || op.Kind == api.OpLook:
		return item(uint64(x.below(3)), x.below(2))
	case op.Kind == api.OpAlloc:
		return index(x.below(3))
	}
	return fine
}

// under is a call that a run has begun and not yet answered.
type under struct {
	id   int
	op   api.Op
	done bool
	ans  api.Ans
}

// run makes the history of n calls, each of which takes effect at one moment after it begins and before it is answered; some may do neither.
func (x *mixer) run(m naive, n int) []api.Event {
	var h []api.Event
	var open []*under
	s, allocs := m.first(), 0
	for begun, turns := 0, 3*n+x.below(2*n+1); turns > 0; turns-- {
		at := x.below(len(open) + 1)
		if at == len(open) {
			op := x.op(m)
			if begun == n || op.Kind == api.OpAlloc && allocs == 2 {
				continue
			}
			if op.Kind == api.OpAlloc {
				allocs++
			}
			u := &under{id: 7*(n-begun) - 9, op: op}
			open, begun = append(open, u), begun+1
			h = append(h, api.Event{ID: u.id, Op: u.op, Ans: x.ans(u.op)})
			continue
		}
		u := open[at]
		if l := m.outcomes(s, u.op); !u.done && len(l) > 0 {
			o := l[x.below(len(l))]
			s, u.ans, u.done = o.after, o.ans, true
		} else if u.done {
			open = slices.Delete(open, at, at+1)
			h = append(h, api.Event{ID: u.id, Answer: true, Op: x.op(m), Ans: u.ans})
			if u.op.Kind == api.OpAlloc {
				allocs--
			}
		}
	}
	return h
}

func everyModel(do func(naive)) {
	for kind := api.ModelFifo; kind <= api.ModelPool; kind++ {
		for _, room := range []int{1, 2, 3, 6} {
			do(naive{kind, room})
		}
	}
}

// P9.1, P9.2: lists of calls that are any, and such as nobody could have recorded.
func TestAnyCalls(t *testing.T) {
	x := mixer(88172645463325252)
	everyModel(func(m naive) {
		fit := 0
		for range 150 {
			var l []api.Span
			for n, allocs := x.below(6), 0; len(l) < n; {
				op := x.op(m)
				to := x.below(9) - 2
				if op.Kind == api.OpAlloc && to < 0 {
					if allocs++; allocs > 2 {
						break
					}
				}
				l = append(l, span(-3*len(l), x.below(7)-1, to, op, x.ans(op)))
			}
			if checkAll(t, m, l) > 0 {
				fit++
			}
		}
		if fit < 15 || fit > 145 {
			t.Errorf("%v: %d of 150 fit: these are no test", m, fit)
		}
	})
}

// P9.4: of calls that took effect, each at one moment, an order fits; P9.1, P9.2: also where one answer was changed.
func TestRuns(t *testing.T) {
	x := mixer(362436069362436069)
	everyModel(func(m naive) {
		for round := range 60 {
			h := x.run(m, 5)
			if is, err := linear.Linear(m.kind, m.room, h); !is || err != api.OK {
				t.Fatalf("%v %v: %v %v", m, h, is, err)
			}
			l, _ := event.Calls(h)
			if checkAll(t, m, l) == 0 {
				t.Fatalf("%v: none fits %v", m, l)
			}
			if round%2 == 0 || len(l) == 0 {
				continue
			}
			c := &l[x.below(len(l))]
			c.Ans = x.ans(c.Op)
			many := checkAll(t, m, l)
			for i, e := range h {
				if e.Answer && e.ID == c.ID {
					h[i].Ans = c.Ans
				}
			}
			if is, err := linear.Linear(m.kind, m.room, h); is != (many > 0) || err != api.OK {
				t.Fatalf("%v %v: %v %v, want %v", m, h, is, err, many > 0)
			}
		}
	})
}

// P9.4: as many calls as there may be.
func TestLongRuns(t *testing.T) {
	x := mixer(521288629)
	for kind := api.ModelFifo; kind <= api.ModelPool; kind++ {
		for _, room := range []int{1, 2, 3, 9, 10, 64} {
			m := naive{kind, room}
			for range 40 {
				h := x.run(m, 10)
				if is, err := linear.Linear(kind, room, h); !is || err != api.OK {
					t.Fatalf("%v %v: %v %v", m, h, is, err)
				}
				l, _ := event.Calls(h)
				ids, is, err := linear.Order(kind, room, l)
				if !is || err != api.OK {
					t.Fatalf("%v %v: %v %v", m, l, is, err)
				}
				checkFits(t, kind, room, l, true, ids...)
				var order []int
				for _, id := range ids {
					order = append(order, slices.IndexFunc(l, func(c api.Span) bool { return c.ID == id }))
				}
				if !m.fits(l, order) {
					t.Fatalf("%v %v: %v does not fit", m, l, ids)
				}
			}
		}
	}
}

// P9.4: where calls were answered and none overlap, no more than one order fits: that in which they were.
func TestNoOverlap(t *testing.T) {
	x := mixer(123456789123)
	everyModel(func(m naive) {
		for round := range 40 {
			var l []api.Span
			s := m.first()
			for i := range x.below(6) {
				op := x.op(m)
				all := m.outcomes(s, op)
				if len(all) == 0 {
					continue
				}
				o := all[x.below(len(all))]
				s = o.after
				l = append(l, span(i, 2*i, 2*i+x.below(2), op, o.ans))
			}
			if round%4 == 0 {
				slices.Reverse(l)
			}
			if many := checkAll(t, m, l); many != 1 {
				t.Fatalf("%v: of %v %d orders fit", m, l, many)
			}
			if len(l) > 0 {
				c := &l[x.below(len(l))]
				c.Ans = x.ans(c.Op)
				if many := checkAll(t, m, l); many > 1 {
					t.Fatalf("%v: of %v %d orders fit", m, l, many)
				}
			}
		}
	})
}

// P9.4: an order that fits still fits when pending calls are added, wherever they are in the list.
func TestMorePending(t *testing.T) {
	x := mixer(987654321987)
	everyModel(func(m naive) {
		for range 60 {
			l, _ := event.Calls(x.run(m, 5))
			order, is, _ := linear.Order(m.kind, m.room, l)
			if !is {
				t.Fatalf("%v: none fits %v", m, l)
			}
			for id := 100; len(l) < 10; id++ {
				op := x.op(m)
				if op.Kind == api.OpAlloc {
					continue
				}
				l = slices.Insert(l, x.below(len(l)+1), span(id, x.below(30), open, op, x.ans(op)))
				checkFits(t, m.kind, m.room, l, true, order...)
				if _, is, err := linear.Order(m.kind, m.room, l); !is || err != api.OK {
					t.Fatalf("%v %v: %v %v", m, l, is, err)
				}
			}
		}
	})
}
