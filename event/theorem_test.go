package event_test

import (
	"math"
	"slices"
	"testing"

	"coxswain/api"
	"coxswain/event"
)

// before reports whether a history has such an event ahead of the place i.
func before(h []api.Event, i, id int, answer bool) bool {
	return slices.ContainsFunc(h[:i], func(e api.Event) bool { return e.ID == id && e.Answer == answer })
}

func naiveCheck(h []api.Event) api.Errno {
	if len(h) > 4096 {
		return api.ErrLong
	}
	for i, e := range h {
		switch {
		case before(h, i, e.ID, e.Answer):
			return api.ErrDouble
		case e.Answer && !before(h, i, e.ID, false):
			return api.ErrUnknown
		}
	}
	return api.OK
}

func naiveCalls(h []api.Event) []api.Span {
	var spans []api.Span
	for i, e := range h {
		if e.Answer {
			continue
		}
		s := api.Span{ID: e.ID, From: i, Op: e.Op}
		s.To = slices.IndexFunc(h, func(a api.Event) bool { return a.Answer && a.ID == e.ID })
		if s.To >= 0 {
			s.Ans = h[s.To].Ans
		}
		spans = append(spans, s)
	}
	return spans
}

// naiveMost counts the calls in progress after each event.
func naiveMost(spans []api.Span, events int) int {
	most := 0
	for at := range events {
		n := 0
		for _, s := range spans {
			if s.From <= at && (s.To < 0 || at < s.To) {
				n++
			}
		}
		most = max(most, n)
	}
	return most
}

func checkNaive(t *testing.T, h []api.Event) {
	t.Helper()
	if err := naiveCheck(h); err != api.OK {
		checkRefused(t, h, err)
		return
	}
	spans := naiveCalls(h)
	var pending []int
	for _, s := range spans {
		if s.To < 0 {
			pending = append(pending, s.ID)
		}
	}
	checkValid(t, h, spans, pending, naiveOnly(h, pending, false), naiveMost(spans, len(h)))
}

func naiveOnly(h []api.Event, ids []int, in bool) []api.Event {
	var l []api.Event
	for _, e := range h {
		if slices.Contains(ids, e.ID) == in {
			l = append(l, e)
		}
	}
	return l
}

// checkOrder is P5.4.
func checkOrder(t *testing.T, h []api.Event) {
	t.Helper()
	spans, err := event.Calls(h)
	if err != api.OK {
		return
	}
	for _, a := range spans {
		if event.Ahead(a, a) {
			t.Errorf("%v: %v is before itself", h, a)
		}
		for _, b := range spans {
			if !event.Ahead(a, b) {
				continue
			}
			if event.Ahead(b, a) {
				t.Errorf("%v: %v and %v are each before the other", h, a, b)
			}
			checkPair(t, spans, a, b)
		}
	}
}

// checkPair holds two calls, of which a is before b, against all others.
func checkPair(t *testing.T, spans []api.Span, a, b api.Span) {
	t.Helper()
	for _, c := range spans {
		if event.Ahead(b, c) && !event.Ahead(a, c) {
			t.Errorf("%v is before %v, that before %v", a, b, c)
		}
		for _, d := range spans {
			if event.Ahead(c, d) && !event.Ahead(a, d) && !event.Ahead(c, b) {
				t.Errorf("%v is before %v, and %v before %v", a, b, c, d)
			}
		}
	}
}

// checkParts is P5.5, and holds Only against a naive one whether the history is valid or not.
func checkParts(t *testing.T, h []api.Event, ids [][]int) {
	t.Helper()
	valid := event.Check(h) == api.OK
	for _, l := range ids {
		part := event.Only(h, l)
		if want := naiveOnly(h, l, true); !slices.Equal(part, want) {
			t.Errorf("%v only %v: %v, want %v", h, l, part, want)
		}
		if err := event.Check(part); valid && err != api.OK {
			t.Errorf("%v only %v: %v", h, l, err)
		}
	}
	for n := range h {
		if err := event.Check(h[:n]); valid && err != api.OK {
			t.Errorf("%v, %d of it: %v", h, n, err)
		}
	}
}

// P5.1 to P5.5: all histories of three IDs with up to 6 events.
func TestAll(t *testing.T) {
	ids := [][]int{nil, {1}, {2}, {3}, {2, 1}, {1, 3}, {3, 2}, {2, 3, 1, 4}}
	symbols := []int{1, 2, 3, -1, -2, -3}
	for length, many := 0, 1; length <= 6; length, many = length+1, many*6 {
		for n := range many {
			var l []int
			for range length {
				l = append(l, symbols[n%6])
				n /= 6
			}
			h := of(l...)
			checkNaive(t, h)
			checkOrder(t, h)
			checkParts(t, h, ids)
			if t.Failed() {
				t.Fatal(l)
			}
		}
	}
}

// P5.1 to P5.5: long histories, valid ones and those that have one wrong event.
func TestMixed(t *testing.T) {
	x := mixer(88172645463325252)
	for _, length := range []int{40, 200, 4096} {
		h := x.history(length)
		checkNaive(t, h)
		checkOrder(t, h[:min(120, length)])
		ids := [][]int{{h[0].ID, h[length/2].ID}, {math.MaxInt}}
		checkParts(t, h[:min(200, length)], append(ids, someIDs(h, 3), someIDs(h, 2)))
		for range 20 {
			wrong := slices.Clone(h)
			at := x.below(length)
			wrong[at] = made(at, wrong[x.below(length)].ID, x.below(2) == 0)
			checkNaive(t, wrong)
		}
	}
}

// someIDs returns the IDs of every so many events.
func someIDs(h []api.Event, every int) []int {
	var l []int
	for i := 0; i < len(h); i += every {
		l = append(l, h[i].ID)
	}
	return l
}

// mixer makes the same numbers in each run.
type mixer uint64

func (x *mixer) below(n int) int {
	*x ^= *x << 13
	*x ^= *x >> 7
	*x ^= *x << 17
	return int(uint64(*x) % uint64(n))
}

// history makes a valid history whose IDs are in no order.
func (x *mixer) history(length int) []api.Event {
	var h []api.Event
	var open []int
	for i := range length {
		if len(open) > 0 && x.below(9) < 4 {
			n := x.below(len(open))
			h = append(h, made(i, open[n], true))
			open = slices.Delete(open, n, n+1)
			continue
		}
		// An odd factor gives each number another product.
		id := i * -0x61c8864680b583eb
		h = append(h, made(i, id, false))
		open = append(open, id)
	}
	return h
}
