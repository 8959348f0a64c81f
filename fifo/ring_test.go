package fifo

import (
	"slices"
	"testing"

	"coxswain/api"
)

// P6.2: what follows a ring leaves it as it was, whatever it is made of.
func TestRingStays(t *testing.T) {
	r := filled(3, []string{"a", "b"})
	for range 7 {
		before := r.list()
		more, less := r.with("c"), r.without()
		if got := more.list(); !slices.Equal(got, append(slices.Clone(before), "c")) || !more.full() {
			t.Error("with:", before, got)
		}
		if got := less.list(); !slices.Equal(got, before[1:]) || less.full() {
			t.Error("without:", before, got)
		}
		if got := r.list(); !slices.Equal(got, before) || r.front() != before[0] {
			t.Error("the ring:", before, got)
		}
		r = more.without()
	}
}

// P6.2: the queue after an operation is computed when it is asked for, as often as it is.
func TestAfter(t *testing.T) {
	for _, op := range []api.Op{{Kind: api.OpPush, W: 9}, {Kind: api.OpFront}, {Kind: api.OpDrop}} {
		q := filled(3, []uint64{5, 7})
		_, after := does(&q, op)
		a, b := after(), after()
		if !slices.Equal(a.list(), b.list()) || !slices.Equal(q.list(), []uint64{5, 7}) {
			t.Errorf("%v: %v %v of %v", op, a.list(), b.list(), q.list())
		}
	}
	if ans, after := does(&queue{room: 1}, api.Op{Kind: api.OpPick}); ans != (api.Ans{}) || after != nil {
		t.Error("of no answer:", ans)
	}
}
