package event_test

import (
	"math"
	"slices"
	"testing"

	"coxswain/api"
	"coxswain/event"
)

// of makes a history: a number above 0 is a call of that ID, one below 0 its answer. Each event has an Op and an Ans that no other one has.
func of(l ...int) []api.Event {
	var h []api.Event
	for i, n := range l {
		h = append(h, made(i, max(n, -n), n < 0))
	}
	return h
}

func made(i, id int, answer bool) api.Event {
	return api.Event{ID: id, Answer: answer, Op: api.Op{Kind: 100 + i, A: i, B: -i, W: uint64(i)}, Ans: api.Ans{Err: api.Errno(i), N: 200 + i, W: ^uint64(i)}}
}

// calls makes a history of n calls.
func calls(n int) []api.Event {
	var h []api.Event
	for i := range n {
		h = append(h, made(i, i, false))
	}
	return h
}

// checkValid holds all that is told of a valid history against what is wanted.
func checkValid(t *testing.T, h []api.Event, spans []api.Span, pending []int, whole []api.Event, most int) {
	t.Helper()
	if err := event.Check(h); err != api.OK {
		t.Errorf("%v: check: %v", h, err)
	}
	if got, err := event.Calls(h); !slices.Equal(got, spans) || err != api.OK {
		t.Errorf("%v: calls: %v %v, want %v", h, got, err, spans)
	}
	if got := event.Pending(h); !slices.Equal(got, pending) {
		t.Errorf("%v: pending: %v, want %v", h, got, pending)
	}
	if got, err := event.Whole(h); !slices.Equal(got, whole) || err != api.OK {
		t.Errorf("%v: whole: %v %v, want %v", h, got, err, whole)
	}
	if got := event.Most(h); got != most {
		t.Errorf("%v: most: %d, want %d", h, got, most)
	}
}

// checkRefused holds all that is told of a history that is not valid against its error.
func checkRefused(t *testing.T, h []api.Event, want api.Errno) {
	t.Helper()
	if err := event.Check(h); err != want {
		t.Errorf("%d events %v: check: %v, want %v", len(h), h[:min(9, len(h))], err, want)
	}
	if got, err := event.Calls(h); len(got) != 0 || err != want {
		t.Errorf("%d events: calls: %d %v, want %v", len(h), len(got), err, want)
	}
	if got, err := event.Whole(h); len(got) != 0 || err != want {
		t.Errorf("%d events: whole: %d %v, want %v", len(h), len(got), err, want)
	}
	if got := event.Pending(h); len(got) != 0 {
		t.Errorf("%d events: pending: %v, want none", len(h), got)
	}
	if got := event.Most(h); got != 0 {
		t.Errorf("%d events: most: %d, want 0", len(h), got)
	}
}

// P5.1, P5.2, P5.3: the chapter's examples.
func TestExample(t *testing.T) {
	h := of(1, 2, -1, 3, -3)
	spans := []api.Span{
		{ID: 1, From: 0, To: 2, Op: h[0].Op, Ans: h[2].Ans},
		{ID: 2, From: 1, To: -1, Op: h[1].Op},
		{ID: 3, From: 3, To: 4, Op: h[3].Op, Ans: h[4].Ans},
	}
	checkValid(t, h, spans, []int{2}, []api.Event{h[0], h[2], h[3], h[4]}, 2)
	ahead := []bool{event.Ahead(spans[0], spans[2]), event.Ahead(spans[0], spans[1]), event.Ahead(spans[1], spans[2])}
	if !slices.Equal(ahead, []bool{true, false, false}) {
		t.Error("ahead:", ahead)
	}
	if got := event.Only(h, []int{1, 9}); !slices.Equal(got, []api.Event{h[0], h[2]}) {
		t.Error("only:", got)
	}
}

// P5.1: which error there is, and that it is that of the first event which has one.
func TestCheck(t *testing.T) {
	for _, x := range []struct {
		h    []api.Event
		want api.Errno
	}{
		{of(1, 1), api.ErrDouble},
		{of(-1), api.ErrUnknown},
		{of(1, -1, -1), api.ErrDouble},
		{of(1, -2), api.ErrUnknown},
		{of(1, -1, 1), api.ErrDouble},
		{of(1, 2, -2, -1, 2), api.ErrDouble},
		{of(1, 2, -2, -1, -2), api.ErrDouble},
		{of(-1, 1), api.ErrUnknown},
		{of(-1, -1), api.ErrUnknown},
		{of(-1, 2, 2), api.ErrUnknown},
		{of(2, 2, -1), api.ErrDouble},
		{of(2, -2, -2, -1), api.ErrDouble},
		{of(2, -2, -1, -2), api.ErrUnknown},
	} {
		checkRefused(t, x.h, x.want)
	}
}

// P5.1, P5.2, P5.3: a history without events.
func TestEmpty(t *testing.T) {
	for _, h := range [][]api.Event{nil, {}, calls(3)[:0]} {
		checkValid(t, h, nil, nil, nil, 0)
		if got := event.Only(h, []int{0, 1}); len(got) != 0 {
			t.Error("only:", got)
		}
	}
}

// P5.1: how long a history may be, and that a longer one is refused for that, whatever else is wrong with it.
func TestLong(t *testing.T) {
	h := calls(4096)
	if err := event.Check(h); err != api.OK {
		t.Error("4096:", err)
	}
	if l, err := event.Calls(h); len(l) != 4096 || err != api.OK {
		t.Error("calls of 4096:", len(l), err)
	}
	if l, err := event.Whole(h); len(l) != 0 || err != api.OK {
		t.Error("whole of 4096:", len(l), err)
	}
	if n, most := len(event.Pending(h)), event.Most(h); n != 4096 || most != 4096 {
		t.Error("pending, most of 4096:", n, most)
	}
	checkRefused(t, calls(4097), api.ErrLong)
	checkRefused(t, append(of(1, 1), h...), api.ErrLong)
	checkRefused(t, append(of(-1), h...), api.ErrLong)
	checkRefused(t, append(h[:4095:4095], h[0]), api.ErrDouble)
	checkRefused(t, append(h[:4095:4095], made(0, 5000, true)), api.ErrUnknown)
	checkRefused(t, append(h[:4096:4096], h[0]), api.ErrLong)
}

// P5.1, P5.2, P5.3: every number is an ID, and 0 is one too.
func TestIDs(t *testing.T) {
	ids := []int{0, -1, 1, math.MinInt, math.MaxInt, 1 << 32}
	var h, whole []api.Event
	var spans []api.Span
	for i, id := range ids {
		h = append(h, made(i, id, false))
		spans = append(spans, api.Span{ID: id, From: i, To: -1, Op: h[i].Op})
	}
	checkValid(t, h, spans, ids, nil, 6)
	for i, id := range ids {
		checkRefused(t, append(h[:6:6], made(9, id, false)), api.ErrDouble)
		checkRefused(t, []api.Event{made(9, id, true)}, api.ErrUnknown)
		a := made(6+i, id, true)
		h, whole = append(h, a), append(whole, h[i])
		spans[i].To, spans[i].Ans = 6+i, a.Ans
		checkValid(t, h, spans, ids[i+1:], append(whole[:i+1:i+1], h[6:]...), 6)
	}
}

// P5.2: the Ans of a call and the Op of an answer do not matter.
func TestOtherHalf(t *testing.T) {
	h := of(1, 2, -2)
	for i := range h {
		if h[i].Answer {
			h[i].Op = h[0].Op
		} else {
			h[i].Ans = h[2].Ans
		}
	}
	spans := []api.Span{{ID: 1, From: 0, To: -1, Op: h[0].Op}, {ID: 2, From: 1, To: 2, Op: h[1].Op, Ans: h[2].Ans}}
	checkValid(t, h, spans, []int{1}, h[1:], 2)
}

// P5.2: Ahead looks at To of the one and at From of the other one, of any spans.
func TestAhead(t *testing.T) {
	for _, x := range []struct {
		to, from int
		want     bool
	}{
		{0, 1, true}, {2, 3, true}, {2, 9, true}, {4094, 4095, true}, {0, math.MaxInt, true},
		{0, 0, false}, {3, 3, false}, {3, 2, false}, {9, 2, false}, {math.MaxInt, math.MaxInt, false},
		{-1, 0, false}, {-1, 5, false}, {-2, 5, false}, {-2, -1, false}, {math.MinInt, math.MaxInt, false},
	} {
		for _, other := range []int{-1, 0, 7, math.MaxInt} {
			if got := event.Ahead(api.Span{ID: 1, From: other, To: x.to}, api.Span{ID: 1, From: x.from, To: other}); got != x.want {
				t.Errorf("To %d, From %d: %v", x.to, x.from, got)
			}
		}
	}
}

// P5.3: the most calls may be in progress at the beginning, in the midst, or at the end.
func TestMost(t *testing.T) {
	for _, x := range []struct {
		h    []api.Event
		want int
	}{
		{of(1), 1}, {of(1, -1), 1}, {of(1, -1, 2, -2, 3), 1}, {of(1, 2, 3), 3},
		{of(1, 2, 3, -1, -2, -3, 4, 5), 3}, {of(1, -1, 2, 3, -2, 4, 5, -3, -5), 3}, {of(1, -1, 2, 3), 2},
		{of(1, 2, -2, 3, -3, 4, -4), 2},
	} {
		if got := event.Most(x.h); got != x.want {
			t.Errorf("%v: %d, want %d", x.h, got, x.want)
		}
	}
}

// P5.3: Only takes histories that are not valid, and IDs in any order, more than once, and such as no event has.
func TestOnly(t *testing.T) {
	h := of(2, 2, -1, 3, -2, -2, 1)
	for _, x := range []struct{ ids, at []int }{
		{nil, nil}, {[]int{}, nil}, {[]int{0, 4, -2, math.MinInt}, nil},
		{[]int{2}, []int{0, 1, 4, 5}}, {[]int{1}, []int{2, 6}}, {[]int{3, 9, 3}, []int{3}},
		{[]int{3, 1}, []int{2, 3, 6}}, {[]int{1, 3, 1}, []int{2, 3, 6}}, {[]int{3, 2, 1}, []int{0, 1, 2, 3, 4, 5, 6}},
	} {
		var want []api.Event
		for _, i := range x.at {
			want = append(want, h[i])
		}
		if got := event.Only(h, x.ids); !slices.Equal(got, want) {
			t.Errorf("%v: %v, want %v", x.ids, got, want)
		}
	}
	if got := event.Only(calls(5000), []int{4999, 4096}); len(got) != 2 || got[0].ID != 4096 || got[1].ID != 4999 {
		t.Error("of 5000:", got)
	}
}

// P5.2, P5.3: what is handed out is new memory, and what is handed in stays as it is, to the end of its room.
func TestOwn(t *testing.T) {
	room, ids := of(1, 2, -1, 3, -3, 4, -9), []int{1, 2, 7}
	beforeRoom, beforeIDs := slices.Clone(room), slices.Clone(ids)
	h := room[:5]
	for range 2 {
		spans, _ := event.Calls(h)
		whole, _ := event.Whole(h)
		pending := event.Pending(h)
		only := event.Only(h, ids[:2])
		if len(spans) != 3 || len(whole) != 4 || len(only) != 3 || !slices.Equal(pending, []int{2}) {
			t.Error("answers:", spans, whole, pending, only)
		}
		clear(spans[:cap(spans)])
		clear(whole[:cap(whole)])
		clear(pending[:cap(pending)])
		clear(only[:cap(only)])
		if !slices.Equal(room, beforeRoom) || !slices.Equal(ids, beforeIDs) {
			t.Fatal("arguments:", room, ids)
		}
	}
}
