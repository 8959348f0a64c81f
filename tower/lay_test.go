package tower_test

import (
	"math"
	"testing"

	"coxswain/api"
	"coxswain/cells"
	"coxswain/tower"
)

// run makes all steps of a lay, and returns how many these are.
func run(x *tower.Lay, m *cells.Mem) int {
	n := 1
	for !x.Step(m) {
		n++
	}
	return n
}

func store(at int, old, new uint64) api.Access {
	return api.Access{Kind: api.AccessStore, At: at, Old: old, New: new, Held: true}
}

// missed is a store to a number that is not a cell.
func missed(at int) api.Access { return api.Access{Kind: api.AccessStore, At: at} }

func checkCame(t *testing.T, x *tower.Lay, by uint64, err api.Errno) {
	t.Helper()
	if x.By() != by || x.Err() != err {
		t.Errorf("by %x, %v; want %x, %v", x.By(), x.Err(), by, err)
	}
}

// checkSteps makes all steps of a lay that has made none, each of which is to be one access.
func checkSteps(t *testing.T, x *tower.Lay, ref uint64, m *cells.Mem, want ...api.Access) {
	t.Helper()
	checkCame(t, x, 0, api.ErrBusy)
	for i, a := range want {
		count := m.Count()
		if got := x.Step(m); got != (i == len(want)-1) {
			t.Errorf("step %d: %v", i, got)
		}
		if m.Count() != count+1 || m.Last() != a {
			t.Errorf("step %d: %d accesses, the last one %+v, want %+v", i, m.Count()-count, m.Last(), a)
		}
		if i < len(want)-1 {
			checkCame(t, x, ref, api.ErrBusy)
		}
	}
	checkEnded(t, x, m, ref, api.OK)
}

// checkEnded sees to it that steps behind the end make no access and change nothing that the lay tells.
func checkEnded(t *testing.T, x *tower.Lay, m *cells.Mem, by uint64, err api.Errno) {
	t.Helper()
	checkCame(t, x, by, err)
	unchanged(t, m, func() {
		for range 3 {
			if !x.Step(m) || !x.Step(nil) {
				t.Error("it has ended")
			}
			checkCame(t, x, by, err)
		}
	})
}

// P15.4: what a lay stores, and where: the least and the greatest of everything.
func TestLay(t *testing.T) {
	for _, c := range []struct {
		ref, key    uint64
		job, height int
		at          int
	}{
		{0x10001, 0, 0, 1, 16},
		{1, 7, 5, 2, 16},
		{3, api.Idle, 65534, 2, 28},
		{0xffffffff0002, mark, 1, 1, 22},
		{0x10003, math.MaxUint64 - 1, 65533, 1, 28},
	} {
		m := filled(t)
		x := tower.NewLay(small, c.ref, c.key, c.job, c.height)
		checkSteps(t, x, c.ref, m, store(c.at, 99, c.key), store(c.at+1, 99, uint64(c.job)), store(c.at+2, 99, uint64(c.height)), store(c.at+3, 99, 2))
	}
	high := changed(func(x *api.Tower) { x.Height = 4 })
	m := mem(t, 40, 99)
	checkSteps(t, tower.NewLay(high, 0x10003, 7, 5, 4), 0x10003, m, store(32, 99, 7), store(33, 99, 5), store(34, 99, 4), store(35, 99, 2))
	one := changed(func(x *api.Tower) { x.Height, x.Nodes = 1, 4 })
	checkSteps(t, tower.NewLay(one, 0x10003, 7, 5, 1), 0x10003, m, store(14, 99, 7), store(15, 99, 5), store(16, 99, 1), store(17, 99, 2))
}

// P15.4: a node may be laid again, with whatever is in its cells; that others write there meanwhile does not matter.
func TestLayAgain(t *testing.T) {
	m := filled(t)
	run(tower.NewLay(small, 0x10002, 7, 5, 2), m)
	x := tower.NewLay(small, 0x20002, 9, 6, 1)
	x.Step(m)
	m.Store(22, 3)
	m.Store(23, 4)
	x.Step(m)
	m.Store(24, math.MaxUint64)
	x.Step(m)
	m.Store(25, 0)
	if !x.Step(m) || m.Last() != store(25, 0, 2) {
		t.Error("the last step:", m.Last())
	}
	checkNode(t, small, 1, m, api.Node{Key: 3, Job: 6, High: 1, Hold: 2, Next: []uint64{99, 99}}, true)
}

// P15.4: what cannot be laid, and which error comes first.
func TestLayRefused(t *testing.T) {
	bad := unsound()
	for _, x := range bad {
		for _, ref := range []uint64{0x10001, 0, 0x10000} {
			m := filled(t)
			checkEnded(t, tower.NewLay(x, ref, 7, -1, 0), m, 0, api.ErrArg)
			checkEnded(t, tower.NewLay(x, ref, 7, 5, 1), m, 0, api.ErrArg)
		}
	}
	for i, c := range []struct {
		ref         uint64
		job, height int
		want        api.Errno
	}{
		{0x10000, 5, 2, api.ErrForm},
		{mark | 0x10000, 5, 2, api.ErrForm},
		{1<<48 | 0x10001, 5, 2, api.ErrForm},
		{1<<62 | 0x10001, 5, 2, api.ErrForm},
		{mark | 1<<55 | 0x10001, 5, 2, api.ErrForm},
		{math.MaxUint64, 5, 2, api.ErrForm},
		{1<<62 | 0x10009, -1, 9, api.ErrForm},
		{0, 5, 2, api.ErrRange},
		{mark, 5, 2, api.ErrRange},
		{mark | 0x10001, 5, 2, api.ErrRange},
		{mark | 0x10009, 5, 2, api.ErrRange},
		{0x10004, 5, 2, api.ErrRange},
		{0x1ffff, 5, 2, api.ErrRange},
		{0xffffffffffff, 5, 2, api.ErrRange},
		{0x10001, math.MinInt, 2, api.ErrRange},
		{0x10001, -1, 2, api.ErrRange},
		{0x10001, 65535, 2, api.ErrRange},
		{0x10001, 65536, 2, api.ErrRange},
		{0x10001, 1<<32 + 5, 2, api.ErrRange},
		{0x10001, math.MaxInt, 2, api.ErrRange},
		{0x10001, 5, math.MinInt, api.ErrRange},
		{0x10001, 5, -1, api.ErrRange},
		{0x10001, 5, 0, api.ErrRange},
		{0x10001, 5, 3, api.ErrRange},
		{0x10001, 5, 4, api.ErrRange},
		{0x10001, 5, math.MaxInt, api.ErrRange},
	} {
		x := tower.NewLay(small, c.ref, 7, c.job, c.height)
		if x.Err() != c.want {
			t.Errorf("row %d: %v, want %v", i, x.Err(), c.want)
		}
		checkEnded(t, x, filled(t), 0, c.want)
	}
}

// P15.4: one that no function made.
func TestInvalid(t *testing.T) {
	for _, x := range []*tower.Lay{nil, {}} {
		checkEnded(t, x, filled(t), 0, api.ErrNil)
	}
}

// P15.4: a memory without those cells, or none, takes as many steps.
func TestNoMemory(t *testing.T) {
	m := mem(t, 23, 99)
	checkSteps(t, tower.NewLay(small, 0x10002, 7, 5, 2), 0x10002, m, store(22, 99, 7), missed(23), missed(24), missed(25))
	far := changed(func(x *api.Tower) { x.Nodes = 4095 })
	checkSteps(t, tower.NewLay(far, 0x10002, 7, 5, 2), 0x10002, m, missed(4101), missed(4102), missed(4103), missed(4104))
	for _, m := range []*cells.Mem{nil, {}} {
		x := tower.NewLay(small, 0x10002, 7, 5, 2)
		for i := range 4 {
			checkCame(t, x, 0x10002*uint64(min(i, 1)), api.ErrBusy)
			if got := x.Step(m); got != (i == 3) {
				t.Errorf("step %d: %v", i, got)
			}
		}
		checkEnded(t, x, m, 0x10002, api.OK)
	}
}

// P15.4: a lay goes on in whatever memory it is stepped, and a copy of it by itself.
func TestOther(t *testing.T) {
	m, other := filled(t), filled(t)
	x := tower.NewLay(small, 0x10001, 7, 5, 2)
	x.Step(m)
	x.Step(m)
	again := *x
	x.Step(other)
	x.Step(m)
	checkEnded(t, x, m, 0x10001, api.OK)
	checkNode(t, small, 0, m, api.Node{Key: 7, Job: 5, High: 99, Hold: 2, Next: []uint64{99, 99}}, true)
	checkNode(t, small, 0, other, api.Node{Key: 99, Job: 99, High: 2, Hold: 99, Next: []uint64{99, 99}}, true)
	checkCame(t, &again, 0x10001, api.ErrBusy)
	if again.Step(m) || m.Last() != store(18, 99, 2) || !again.Step(m) || m.Last() != store(19, 2, 2) {
		t.Error("the copy:", m.Last())
	}
	checkEnded(t, &again, m, 0x10001, api.OK)
}
