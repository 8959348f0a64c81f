package find_test

import (
	"math"
	"slices"
	"testing"

	"coxswain/api"
	"coxswain/cells"
	"coxswain/find"
	"coxswain/tower"
)

// small is the tower of the chapter's examples.
var small = api.Tower{
	Heads: 14, Nodes: 16, Height: 2,
	Limbo: api.Limbo{
		A:    api.Arena{Free: api.Stack{Top: 0, Links: 1, Size: 3}, Gens: 4, Worn: 7, Limit: 9},
		E:    api.Epoch{At: 8, Pins: 9, Cores: 2},
		Tops: 11,
	},
}

const mark = 1 << 63

// changed is the small tower with a change.
func changed(change func(*api.Tower)) api.Tower {
	t := small
	change(&t)
	return t
}

// mem is a memory of so many cells.
func mem(t *testing.T, n int) *cells.Mem {
	t.Helper()
	m, err := cells.New(n)
	if err != api.OK {
		t.Fatal("memory:", err)
	}
	return m
}

// listed is the memory of the chapter's examples: on the level 0 the nodes 1, 0 and 2, on the level 1 the node 0.
func listed(t *testing.T) *cells.Mem {
	t.Helper()
	m := mem(t, 34)
	tower.Fill(small, m)
	for at, w := range map[int]uint64{22: 4, 16: 9, 28: 12, 14: 0x10002, 15: 0x10001, 26: 0x10001, 20: 0x10003} {
		m.Store(at, w)
	}
	return m
}

// half is the memory in which the node 0 is marked on both levels.
func half(t *testing.T) *cells.Mem {
	t.Helper()
	m := listed(t)
	m.Store(20, mark|0x10003)
	m.Store(21, mark)
	return m
}

// found is what a Find comes to.
type found struct {
	preds        []int
	succs, known []uint64
}

func checkCame(t *testing.T, x *find.Find, by uint64, err api.Errno, want found) {
	t.Helper()
	if x.By() != by || x.Err() != err {
		t.Errorf("by %x, %v; want %x, %v", x.By(), x.Err(), by, err)
	}
	if !slices.Equal(x.Preds(), want.preds) || !slices.Equal(x.Succs(), want.succs) || !slices.Equal(x.Known(), want.known) {
		t.Errorf("found %v %x %x, want %+v", x.Preds(), x.Succs(), x.Known(), want)
	}
}

// step is an access, and by which ref it is made.
type step struct {
	api.Access
	by uint64
}

func load(at int, w, by uint64) step {
	return step{api.Access{Kind: api.AccessLoad, At: at, Old: w, New: w}, by}
}

func swap(at int, old, new, by uint64) step {
	return step{api.Access{Kind: api.AccessCAS, At: at, Old: old, New: new, Held: true}, by}
}

// missed is a swap of a cell that holds another word.
func missed(at int, w, by uint64) step {
	return step{api.Access{Kind: api.AccessCAS, At: at, Old: w, New: w}, by}
}

// checkSome makes some steps, each of which is to be one access, and to have another one behind it.
func checkSome(t *testing.T, x *find.Find, m *cells.Mem, want ...step) {
	t.Helper()
	for i, s := range want {
		count := m.Count()
		if x.Step(m) {
			t.Errorf("step %d: ended", i)
		}
		if m.Count() != count+1 || m.Last() != s.Access {
			t.Errorf("step %d: %d accesses, the last one %+v, want %+v", i, m.Count()-count, m.Last(), s.Access)
		}
		checkCame(t, x, s.by, api.ErrBusy, found{})
	}
}

// checkSteps makes all steps that are left.
func checkSteps(t *testing.T, x *find.Find, m *cells.Mem, f found, want ...step) {
	t.Helper()
	last := want[len(want)-1]
	checkSome(t, x, m, want[:len(want)-1]...)
	count := m.Count()
	if !x.Step(m) {
		t.Error("the last step: not ended")
	}
	if m.Count() != count+1 || m.Last() != last.Access {
		t.Errorf("the last step: %d accesses, the last one %+v, want %+v", m.Count()-count, m.Last(), last.Access)
	}
	checkEnded(t, x, m, last.by, api.OK, f)
}

// checkEnded sees to it that steps behind the end make no access and change nothing that is told.
func checkEnded(t *testing.T, x *find.Find, m *cells.Mem, by uint64, err api.Errno, f found) {
	t.Helper()
	checkCame(t, x, by, err, f)
	last, count, words := m.Last(), m.Count(), m.Words()
	for range 3 {
		if !x.Step(m) || !x.Step(nil) {
			t.Error("it has ended")
		}
		checkCame(t, x, by, err, f)
	}
	if m.Last() != last || m.Count() != count || !slices.Equal(m.Words(), words) {
		t.Error("an access behind the end")
	}
}

func checkWord(t *testing.T, m *cells.Mem, at int, want uint64) {
	t.Helper()
	if got := m.Words()[at]; got != want {
		t.Errorf("cell %d: %x, want %x", at, got, want)
	}
}

func checkLevel(t *testing.T, x api.Tower, l int, m *cells.Mem, want ...int) {
	t.Helper()
	if got := tower.Level(x, l, m); !slices.Equal(got, want) {
		t.Errorf("level %d: %v, want %v", l, got, want)
	}
}

// run makes all steps, and returns how many these are.
func run(x *find.Find, m *cells.Mem) int {
	n := 1
	for !x.Step(m) {
		n++
	}
	return n
}

// The chapter's examples.
func TestExample(t *testing.T) {
	for _, c := range []struct {
		key   uint64
		steps int
		want  found
	}{
		{9, 8, found{[]int{1, -1}, []uint64{0x10001, 0x10001}, []uint64{0x10002, 0}}},
		{10, 6, found{[]int{0, 0}, []uint64{0x10003, 0}, []uint64{0x10001, 0x10001}}},
	} {
		m := listed(t)
		x, words := find.NewFind(small, c.key), m.Words()
		if n := run(x, m); n != c.steps {
			t.Errorf("find %d: %d steps", c.key, n)
		}
		checkCame(t, x, x.By(), api.OK, c.want)
		if !slices.Equal(m.Words(), words) {
			t.Errorf("changed: %x", m.Words())
		}
	}
	m := half(t)
	x := find.NewFind(small, 5)
	if n := run(x, m); n != 10 {
		t.Error("steps:", n)
	}
	checkCame(t, x, 0x10003, api.OK, found{[]int{1, -1}, []uint64{0x10003, 0}, []uint64{0x10002, 0}})
	checkLevel(t, small, 0, m, 1, 2)
	checkLevel(t, small, 1, m)

	m = listed(t)
	x = find.NewFind(small, 5)
	checkCame(t, x, 0, api.ErrBusy, found{})
	m.Store(15, mark)
	if x.Step(m) || x.Step(m) || x.Step(m) || x.By() != 0 {
		t.Error("a word of the head that is marked")
	}
	x = find.NewFind(changed(func(x *api.Tower) { x.Height = 5 }), 9)
	checkEnded(t, x, m, 0, api.ErrArg, found{})
	checkEnded(t, nil, m, 0, api.ErrNil, found{})
}

// P16.1, P16.2: the access and the ref of each step that removes nothing.
func TestSteps(t *testing.T) {
	m := listed(t)
	checkSteps(t, find.NewFind(small, 9), m, found{[]int{1, -1}, []uint64{0x10001, 0x10001}, []uint64{0x10002, 0}},
		load(15, 0x10001, 0), load(21, 0, 0x10001), load(16, 9, 0x10001),
		load(14, 0x10002, 0), load(26, 0x10001, 0x10002), load(22, 4, 0x10002), load(20, 0x10003, 0x10001), load(16, 9, 0x10001))
	checkSteps(t, find.NewFind(small, 10), m, found{[]int{0, 0}, []uint64{0x10003, 0}, []uint64{0x10001, 0x10001}},
		load(15, 0x10001, 0), load(21, 0, 0x10001), load(16, 9, 0x10001),
		load(20, 0x10003, 0x10001), load(32, 0, 0x10003), load(28, 12, 0x10003))
	checkSteps(t, find.NewFind(small, 13), m, found{[]int{2, 0}, []uint64{0, 0}, []uint64{0x10003, 0x10001}},
		load(15, 0x10001, 0), load(21, 0, 0x10001), load(16, 9, 0x10001),
		load(20, 0x10003, 0x10001), load(32, 0, 0x10003), load(28, 12, 0x10003))
	checkSteps(t, find.NewFind(small, 4), m, found{[]int{-1, -1}, []uint64{0x10002, 0x10001}, []uint64{0, 0}},
		load(15, 0x10001, 0), load(21, 0, 0x10001), load(16, 9, 0x10001),
		load(14, 0x10002, 0), load(26, 0x10001, 0x10002), load(22, 4, 0x10002))
}

// P16.1: a list without nodes has a step for each level.
func TestEmpty(t *testing.T) {
	m := mem(t, 34)
	checkSteps(t, find.NewFind(small, 9), m, found{[]int{-1, -1}, []uint64{0, 0}, []uint64{0, 0}}, load(15, 0, 0), load(14, 0, 0))
	one := changed(func(x *api.Tower) { x.Height = 1 })
	checkSteps(t, find.NewFind(one, 0), m, found{[]int{-1}, []uint64{0}, []uint64{0}}, load(14, 0, 0))
	four := changed(func(x *api.Tower) { x.Height = 4 })
	checkSteps(t, find.NewFind(four, api.Idle), m, found{[]int{-1, -1, -1, -1}, make([]uint64, 4), make([]uint64, 4)},
		load(17, 0, 0), load(16, 0, 0), load(15, 0, 0), load(14, 0, 0))
}

// P16.2: nodes that are marked are taken off: the head's and a node's word, the last one of a level, and several in a row.
func TestRemoves(t *testing.T) {
	m := half(t)
	checkSteps(t, find.NewFind(small, 5), m, found{[]int{1, -1}, []uint64{0x10003, 0}, []uint64{0x10002, 0}},
		load(15, 0x10001, 0), load(21, mark, 0x10001), swap(15, 0x10001, 0, 0),
		load(14, 0x10002, 0), load(26, 0x10001, 0x10002), load(22, 4, 0x10002),
		load(20, mark|0x10003, 0x10001), swap(26, 0x10001, 0x10003, 0x10002), load(32, 0, 0x10003), load(28, 12, 0x10003))
	checkWord(t, m, 20, mark|0x10003)
	checkWord(t, m, 21, mark)
	m = listed(t)
	m.Store(26, mark|0x10001)
	m.Store(21, mark)
	m.Store(20, mark|0x10003)
	m.Store(32, mark)
	checkSteps(t, find.NewFind(small, 12), m, found{[]int{-1, -1}, []uint64{0, 0}, []uint64{0, 0}},
		load(15, 0x10001, 0), load(21, mark, 0x10001), swap(15, 0x10001, 0, 0),
		load(14, 0x10002, 0), load(26, mark|0x10001, 0x10002), swap(14, 0x10002, 0x10001, 0),
		load(20, mark|0x10003, 0x10001), swap(14, 0x10001, 0x10003, 0),
		load(32, mark, 0x10003), swap(14, 0x10003, 0, 0))
	checkLevel(t, small, 0, m)
}

// P16.3: nodes that are marked stay where they lie behind what it looks for, or where the level above led past them.
func TestLeaves(t *testing.T) {
	m := listed(t)
	m.Store(26, mark|0x10001)
	m.Store(32, mark)
	checkSteps(t, find.NewFind(small, 5), m, found{[]int{-1, -1}, []uint64{0x10001, 0x10001}, []uint64{0, 0}},
		load(15, 0x10001, 0), load(21, 0, 0x10001), load(16, 9, 0x10001),
		load(14, 0x10002, 0), load(26, mark|0x10001, 0x10002), swap(14, 0x10002, 0x10001, 0), load(20, 0x10003, 0x10001), load(16, 9, 0x10001))
	checkLevel(t, small, 0, m, 0, 2)
	m = listed(t)
	m.Store(26, mark|0x10001)
	run(find.NewFind(small, 10), m)
	checkLevel(t, small, 0, m, 1, 0, 2)
}

// P16.1: a pred that has become marked makes it begin anew, from the head and at the top, whatever it has found.
func TestPredMarked(t *testing.T) {
	m := listed(t)
	x := find.NewFind(small, 10)
	above := []step{load(15, 0x10001, 0), load(21, 0, 0x10001), load(16, 9, 0x10001)}
	checkSome(t, x, m, above...)
	m.Store(20, mark|0x10003)
	checkSome(t, x, m, load(20, mark|0x10003, 0x10001))
	m.Store(20, mark)
	checkSome(t, x, m, append(above, load(20, mark, 0x10001))...)
	m.Store(21, mark)
	checkSteps(t, x, m, found{[]int{1, -1}, []uint64{0, 0}, []uint64{0x10002, 0}},
		load(15, 0x10001, 0), load(21, mark, 0x10001), swap(15, 0x10001, 0, 0),
		load(14, 0x10002, 0), load(26, 0x10001, 0x10002), load(22, 4, 0x10002),
		load(20, mark, 0x10001), swap(26, 0x10001, 0, 0x10002))
}

// P16.1: so does a swap that fails: as somebody else has taken the node off, as the pred has been marked, or as a node has come between.
func TestSwapFails(t *testing.T) {
	begun := func() (*find.Find, *cells.Mem) {
		m, x := half(t), find.NewFind(small, 5)
		checkSome(t, x, m, load(15, 0x10001, 0), load(21, mark, 0x10001))
		return x, m
	}
	rest := []step{load(14, 0x10002, 0), load(26, 0x10001, 0x10002), load(22, 4, 0x10002), load(20, mark|0x10003, 0x10001)}
	end := []step{swap(26, 0x10001, 0x10003, 0x10002), load(32, 0, 0x10003), load(28, 12, 0x10003)}
	f := found{[]int{1, -1}, []uint64{0x10003, 0}, []uint64{0x10002, 0}}

	x, m := begun()
	m.Store(15, 0)
	checkSome(t, x, m, missed(15, 0, 0), load(15, 0, 0))
	checkSteps(t, x, m, f, append(rest, end...)...)

	x, m = begun()
	checkSome(t, x, m, append([]step{swap(15, 0x10001, 0, 0)}, rest...)...)
	m.Store(26, mark|0x10001)
	checkSome(t, x, m, missed(26, mark|0x10001, 0x10002), load(15, 0, 0), load(14, 0x10002, 0), load(26, mark|0x10001, 0x10002))
	m.Store(14, 0x20002)
	checkSome(t, x, m, missed(14, 0x20002, 0), load(15, 0, 0), load(14, 0x20002, 0), load(26, mark|0x10001, 0x20002))
	checkSteps(t, x, m, found{[]int{-1, -1}, []uint64{0x10003, 0}, []uint64{0, 0}},
		swap(14, 0x20002, 0x10001, 0), load(20, mark|0x10003, 0x10001), swap(14, 0x10001, 0x10003, 0), load(32, 0, 0x10003), load(28, 12, 0x10003))
}

// P16.1: what is kept is not loaded again: a link that changes while the key is loaded counts as it was.
func TestKept(t *testing.T) {
	m := listed(t)
	x := find.NewFind(small, 13)
	checkSome(t, x, m, load(15, 0x10001, 0), load(21, 0, 0x10001))
	m.Store(21, mark|0x10003)
	checkSome(t, x, m, load(16, 9, 0x10001), load(20, 0x10003, 0x10001))
	m.Store(20, 0x10002)
	checkSome(t, x, m, load(32, 0, 0x10003))
	m.Store(32, 0x10001)
	checkSteps(t, x, m, found{[]int{2, 0}, []uint64{0, 0}, []uint64{0x10003, 0x10001}}, load(28, 12, 0x10003))
}

// P16.1, P16.2: a word is read by its bits 0 to 15, and kept as it is, but that a swap takes its mark off.
func TestWords(t *testing.T) {
	const odd = 0x7ff5<<48 | 9<<16
	m := listed(t)
	m.Store(15, odd|1)
	m.Store(21, odd)
	m.Store(14, odd|4)
	m.Store(20, odd|3)
	m.Store(32, odd|0xffff)
	checkSteps(t, find.NewFind(small, 13), m, found{[]int{2, 0}, []uint64{odd | 0xffff, odd}, []uint64{odd | 3, odd | 1}},
		load(15, odd|1, 0), load(21, odd, odd|1), load(16, 9, odd|1),
		load(20, odd|3, odd|1), load(32, odd|0xffff, odd|3), load(28, 12, odd|3))
	checkSteps(t, find.NewFind(small, 1), m, found{[]int{-1, -1}, []uint64{odd | 4, odd | 1}, []uint64{0, 0}},
		load(15, odd|1, 0), load(21, odd, odd|1), load(16, 9, odd|1), load(14, odd|4, 0))
	m.Store(21, math.MaxUint64)
	checkSome(t, find.NewFind(small, 1), m, load(15, odd|1, 0), load(21, math.MaxUint64, odd|1), swap(15, odd|1, math.MaxUint64>>1, 0))
	m.Store(15, 2)
	m.Store(27, mark|odd|3)
	m.Store(33, 4)
	checkSome(t, find.NewFind(small, 13), m, load(15, 2, 0), load(27, mark|odd|3, 2), swap(15, 2, odd|3, 0), load(33, 4, odd|3), load(28, 12, odd|3))
}

// P16.1: keys are words, of which the greatest is above all others.
func TestKeys(t *testing.T) {
	for _, key := range []uint64{0, 1, 9, mark - 1, mark, mark + 1, api.Idle - 1, api.Idle} {
		for _, than := range []uint64{0, 1, 9, mark - 1, mark, mark + 1, api.Idle - 1, api.Idle} {
			m := listed(t)
			m.Store(14, 1)
			m.Store(15, 1)
			m.Store(20, 0)
			m.Store(16, key)
			x, want := find.NewFind(small, than), []int{-1, -1}
			run(x, m)
			if key < than {
				want = []int{0, 0}
			}
			if !slices.Equal(x.Preds(), want) {
				t.Errorf("the key %x, looked for %x: %v", key, than, x.Preds())
			}
		}
	}
}

// P16.1: where links lead back it goes round, for as long as they do.
func TestRound(t *testing.T) {
	m := listed(t)
	m.Store(15, 1)
	m.Store(21, 1)
	x := find.NewFind(small, 10)
	checkSome(t, x, m, load(15, 1, 0))
	for range 1000 {
		checkSome(t, x, m, load(21, 1, 1), load(16, 9, 1))
	}
	m.Store(21, 0)
	checkSteps(t, x, m, found{[]int{0, 0}, []uint64{0x10003, 0}, []uint64{1, 1}},
		load(21, 0, 1), load(16, 9, 1), load(20, 0x10003, 1), load(32, 0, 0x10003), load(28, 12, 0x10003))
}

// P16.1: the greatest tower, and the least one.
func TestSizes(t *testing.T) {
	for _, c := range []struct{ size, height int }{{1, 1}, {1, 4}, {127, 3}, {128, 4}} {
		x := changed(func(x *api.Tower) {
			x.Limbo.A.Free.Size, x.Height, x.Heads, x.Nodes = c.size, c.height, 1, 9
		})
		m := mem(t, 4096)
		last := c.size - 1
		m.Store(tower.At(x, last, api.PartKey), 5)
		for l := range c.height {
			m.Store(tower.Next(x, -1, l), uint64(c.size))
			m.Store(tower.Next(x, last, l), uint64(c.size+1))
		}
		f := find.NewFind(x, 6)
		if n := run(f, m); n != 3+c.height-1 {
			t.Errorf("%+v: %d steps", c, n)
		}
		want := found{make([]int, c.height), make([]uint64, c.height), make([]uint64, c.height)}
		for l := range c.height {
			want.preds[l], want.succs[l], want.known[l] = last, uint64(c.size+1), uint64(c.size)
		}
		checkCame(t, f, f.By(), api.OK, want)
	}
}

// P16.1: towers that are not sound.
func TestUnsound(t *testing.T) {
	var l []api.Tower
	for _, n := range []int{math.MinInt, -1, 0, 5, math.MaxInt} {
		l = append(l, changed(func(t *api.Tower) { t.Height = n }))
	}
	for _, n := range []int{math.MinInt, -1, 0, 129, 65536, math.MaxInt} {
		l = append(l, changed(func(t *api.Tower) { t.Limbo.A.Free.Size = n }))
	}
	for _, n := range []int{math.MinInt, -1, 4096, math.MaxInt} {
		l = append(l, changed(func(t *api.Tower) { t.Nodes = n }), changed(func(t *api.Tower) { t.Heads = n }))
	}
	for _, x := range append(l, api.Tower{}) {
		checkEnded(t, find.NewFind(x, 9), listed(t), 0, api.ErrArg, found{})
	}
}

// P16.1: one that is sound, though nothing else is right about it: no limbo of that kind is in any memory.
func TestSound(t *testing.T) {
	x := api.Tower{Heads: 14, Nodes: 16, Height: 2, Limbo: api.Limbo{
		A:    api.Arena{Free: api.Stack{Top: -1, Links: math.MaxInt, Size: 3}, Gens: math.MinInt, Worn: -1},
		E:    api.Epoch{At: -1, Pins: -1, Cores: -1},
		Tops: -1,
	}}
	m := listed(t)
	f := find.NewFind(x, 9)
	if n := run(f, m); n != 8 {
		t.Error("steps:", n)
	}
	checkCame(t, f, 0x10001, api.OK, found{[]int{1, -1}, []uint64{0x10001, 0x10001}, []uint64{0x10002, 0}})
}

// Rule 5: one that no function made.
func TestInvalid(t *testing.T) {
	for _, x := range []*find.Find{nil, {}} {
		checkEnded(t, x, listed(t), 0, api.ErrNil, found{})
	}
}

// Rule 9: a memory that has none of the cells, or only some of them, and none at all.
func TestNoMemory(t *testing.T) {
	none := found{[]int{-1, -1}, []uint64{0, 0}, []uint64{0, 0}}
	checkSteps(t, find.NewFind(small, 9), mem(t, 14), none, load(15, 0, 0), load(14, 0, 0))
	for _, m := range []*cells.Mem{nil, {}} {
		x := find.NewFind(small, 9)
		if x.Step(m) || !x.Step(m) {
			t.Error("two levels are two steps")
		}
		checkEnded(t, x, m, 0, api.OK, none)
	}
	m := mem(t, 16)
	m.Store(15, 3)
	m.Store(14, 2)
	checkSteps(t, find.NewFind(small, 0), m, found{[]int{-1, -1}, []uint64{2, 3}, []uint64{0, 0}},
		load(15, 3, 0), load(33, 0, 3), load(28, 0, 3), load(14, 2, 0), load(26, 0, 2), load(22, 0, 2))
	checkSteps(t, find.NewFind(small, 1), m, found{[]int{2, 2}, []uint64{0, 0}, []uint64{3, 3}},
		load(15, 3, 0), load(33, 0, 3), load(28, 0, 3), load(32, 0, 3))
}

// Rule 9: it goes on in whatever memory it is stepped; a swap of a cell that does not exist fails.
func TestOther(t *testing.T) {
	m, other := half(t), listed(t)
	x := find.NewFind(small, 10)
	checkSome(t, x, m, load(15, 0x10001, 0))
	checkSome(t, x, other, load(21, 0, 0x10001))
	checkSome(t, x, m, load(16, 9, 0x10001), load(20, mark|0x10003, 0x10001), load(15, 0x10001, 0), load(21, mark, 0x10001))
	checkSome(t, x, mem(t, 3), missed(15, 0, 0))
	checkSome(t, x, other, load(15, 0x10001, 0))
	if x.Step(nil) || x.Step(nil) || !x.Step(nil) {
		t.Error("of no memory all words are 0")
	}
	checkEnded(t, x, m, 0x10001, api.OK, found{[]int{0, 0}, []uint64{0, 0}, []uint64{0x10001, 0x10001}})
}

// Rule 9: a copy goes on by itself.
func TestCopy(t *testing.T) {
	m := half(t)
	x := find.NewFind(small, 5)
	checkSome(t, x, m, load(15, 0x10001, 0), load(21, mark, 0x10001))
	again := *x
	checkSome(t, x, m, swap(15, 0x10001, 0, 0), load(14, 0x10002, 0))
	checkSome(t, &again, m, missed(15, 0, 0), load(15, 0, 0), load(14, 0x10002, 0), load(26, 0x10001, 0x10002), load(22, 4, 0x10002))
	checkSome(t, x, m, load(26, 0x10001, 0x10002), load(22, 4, 0x10002))
	third := again
	f := found{[]int{1, -1}, []uint64{0x10003, 0}, []uint64{0x10002, 0}}
	for i, y := range []*find.Find{x, &again, &third} {
		n := m.Copy()
		checkSteps(t, y, n, f, load(20, mark|0x10003, 0x10001), swap(26, 0x10001, 0x10003, 0x10002), load(32, 0, 0x10003), load(28, 12, 0x10003))
		checkLevel(t, small, 0, n, 1, 2)
		if i == 0 {
			checkCame(t, &again, 0x10002, api.ErrBusy, found{})
		}
	}
}

// Rule 4: what it tells is new memory each time.
func TestNewResults(t *testing.T) {
	m, x := listed(t), find.NewFind(small, 10)
	run(x, m)
	p, s, k := x.Preds(), x.Succs(), x.Known()
	clear(p[:cap(p)])
	clear(s[:cap(s)])
	clear(k[:cap(k)])
	checkEnded(t, x, m, 0x10003, api.OK, found{[]int{0, 0}, []uint64{0x10003, 0}, []uint64{0x10001, 0x10001}})
}
