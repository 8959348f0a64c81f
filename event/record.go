package event

import (
	"iter"

	"coxswain/api"
)

// call is where a call is in a history, and where its answer is, or -1 while it has none.
type call struct{ from, to int }

func (c call) pending() bool { return c.to < 0 }

// seen is the calls that were seen, by their IDs.
type seen map[int]call

// rule returns why an event cannot be the next one, or OK as far as this rule goes.
type rule func(api.Event) api.Errno

func (s seen) rules() []rule {
	return []rule{s.calledTwice, s.answeredTwice, s.neverCalled}
}

func (s seen) calledTwice(e api.Event) api.Errno {
	if _, called := s[e.ID]; called && !e.Answer {
		return api.ErrDouble
	}
	return api.OK
}

func (s seen) answeredTwice(e api.Event) api.Errno {
	if c, called := s[e.ID]; called && !c.pending() && e.Answer {
		return api.ErrDouble
	}
	return api.OK
}

func (s seen) neverCalled(e api.Event) api.Errno {
	if _, called := s[e.ID]; !called && e.Answer {
		return api.ErrUnknown
	}
	return api.OK
}

// add takes in an event that broke no rule.
func (s seen) add(at int, e api.Event) {
	if !e.Answer {
		s[e.ID] = call{from: at, to: -1}
		return
	}
	s[e.ID] = call{from: s[e.ID].from, to: at}
}

// broken returns what the first rule says that an event breaks, or OK if it breaks none.
func broken(rules []rule, e api.Event) api.Errno {
	for _, says := range rules {
		if err := says(e); err != api.OK {
			return err
		}
	}
	return api.OK
}

// record is a valid history, and its calls. The zero value is that of no events.
type record struct {
	events []api.Event
	seen   seen
}

// read returns the record of a history, or, with an error, that of no events.
func read(h []api.Event) (record, api.Errno) {
	if len(h) > api.MaxEvents {
		return record{}, api.ErrLong
	}
	r := record{events: h, seen: make(seen)}
	rules := r.seen.rules()
	for at, e := range h {
		if err := broken(rules, e); err != api.OK {
			return record{}, err
		}
		r.seen.add(at, e)
	}
	return r, api.OK
}

// calls yields the IDs and the calls in the order of the history, for a map has none.
func (r record) calls() iter.Seq2[int, call] {
	return func(yield func(int, call) bool) {
		for _, e := range r.events {
			if !e.Answer && !yield(e.ID, r.seen[e.ID]) {
				return
			}
		}
	}
}

// span returns a call with what was asked and what was answered.
func (r record) span(id int, c call) api.Span {
	s := api.Span{ID: id, From: c.from, To: c.to, Op: r.events[c.from].Op}
	if !c.pending() {
		s.Ans = r.events[c.to].Ans
	}
	return s
}
