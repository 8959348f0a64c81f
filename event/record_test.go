package event

import (
	"slices"
	"testing"

	"coxswain/api"
)

// P5.2: who ranges over the calls may leave when they have seen enough.
func TestLeave(t *testing.T) {
	r, err := read([]api.Event{{ID: 5}, {ID: 3}, {ID: 5, Answer: true}, {ID: 4}})
	if err != api.OK {
		t.Fatal(err)
	}
	for leave := 1; leave <= 4; leave++ {
		var ids []int
		for id := range r.calls() {
			ids = append(ids, id)
			if len(ids) == leave {
				break
			}
		}
		if want := []int{5, 3, 4}[:min(leave, 3)]; !slices.Equal(ids, want) {
			t.Errorf("left after %d: %v, want %v", leave, ids, want)
		}
	}
}

// P5.1: of the rules that an event breaks, the first one counts.
func TestFirstRule(t *testing.T) {
	says := func(err api.Errno) rule { return func(api.Event) api.Errno { return err } }
	for _, x := range []struct {
		rules []rule
		want  api.Errno
	}{
		{nil, api.OK},
		{[]rule{says(api.OK), says(api.OK)}, api.OK},
		{[]rule{says(api.OK), says(api.ErrDouble), says(api.ErrUnknown)}, api.ErrDouble},
		{[]rule{says(api.ErrUnknown), says(api.ErrDouble), says(api.OK)}, api.ErrUnknown},
	} {
		if got := broken(x.rules, api.Event{}); got != x.want {
			t.Errorf("%v, want %v", got, x.want)
		}
	}
}
