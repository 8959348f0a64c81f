package tower_test

import (
	"math"
	"slices"
	"testing"

	"coxswain/api"
	"coxswain/cells"
	"coxswain/limbo"
	"coxswain/tower"
)

// small is the tower of the chapter's examples.
var small = api.Tower{
	Heads: 14, Nodes: 16, Height: 2,
	Limbo: api.Limbo{
		A:    api.Arena{Free: api.Stack{Top: 0, Links: 1, Size: 3}, Gens: 4, Worn: 7, Limit: 9},
		E:    api.Epoch{At: 8, Pins: 9, Cores: 2},
		Tops: 11,
	},
}

const mark = 1 << 63

// changed is the small tower with a change.
func changed(change func(*api.Tower)) api.Tower {
	t := small
	change(&t)
	return t
}

// unsound are towers that are not sound, for one reason each.
func unsound() []api.Tower {
	var l []api.Tower
	for _, n := range []int{math.MinInt, -1, 0, 5, math.MaxInt} {
		l = append(l, changed(func(t *api.Tower) { t.Height = n }))
	}
	for _, n := range []int{math.MinInt, -1, 0, 129, 65536, math.MaxInt} {
		l = append(l, changed(func(t *api.Tower) { t.Limbo.A.Free.Size = n }))
	}
	for _, n := range []int{math.MinInt, -1, 4096, math.MaxInt} {
		l = append(l, changed(func(t *api.Tower) { t.Nodes = n }), changed(func(t *api.Tower) { t.Heads = n }))
	}
	return l
}

// mem is a memory of so many cells, which all hold a word.
func mem(t *testing.T, n int, w uint64) *cells.Mem {
	t.Helper()
	m, err := cells.New(n)
	if err != api.OK {
		t.Fatal("memory:", err)
	}
	for at := range n {
		m.Store(at, w)
	}
	return m
}

// filled is a memory of the small tower, whose nodes' cells hold 99.
func filled(t *testing.T) *cells.Mem {
	t.Helper()
	m := mem(t, 34, 99)
	tower.Fill(small, m)
	return m
}

func checkWords(t *testing.T, m *cells.Mem, want ...uint64) {
	t.Helper()
	if got := m.Words(); !slices.Equal(got, want) {
		t.Errorf("words: %x, want %x", got, want)
	}
}

// some are the first words of a memory, for those of a great one tell little.
func some(m *cells.Mem) []uint64 {
	words := m.Words()
	return words[:min(len(words), 60)]
}

// unchanged sees to it that what is done makes no access.
func unchanged(t *testing.T, m *cells.Mem, do func()) {
	t.Helper()
	last, count, words := m.Last(), m.Count(), m.Words()
	do()
	if m.Last() != last || m.Count() != count || !slices.Equal(m.Words(), words) {
		t.Error("an access")
	}
}

// checkLevel also sees to it that looking is not an access.
func checkLevel(t *testing.T, x api.Tower, l int, m *cells.Mem, want ...int) {
	t.Helper()
	unchanged(t, m, func() {
		if got := tower.Level(x, l, m); !slices.Equal(got, want) {
			t.Errorf("level %d of %+v in %x: %v, want %v", l, x, some(m), got, want)
		}
	})
}

func checkLive(t *testing.T, x api.Tower, m *cells.Mem, want ...int) {
	t.Helper()
	unchanged(t, m, func() {
		if got := tower.Live(x, m); !slices.Equal(got, want) {
			t.Errorf("live of %+v in %x: %v, want %v", x, some(m), got, want)
		}
	})
}

func checkNode(t *testing.T, x api.Tower, i int, m *cells.Mem, want api.Node, is bool) {
	t.Helper()
	unchanged(t, m, func() {
		got, has := tower.Node(x, i, m)
		if got.Key != want.Key || got.Job != want.Job || got.High != want.High || got.Hold != want.Hold || !slices.Equal(got.Next, want.Next) || has != is {
			t.Errorf("node %d of %+v: %+v %v, want %+v %v", i, x, got, has, want, is)
		}
	})
}

// The chapter's examples.
func TestExample(t *testing.T) {
	for i, c := range []struct{ got, want int }{
		{tower.At(small, 1, 0), 22}, {tower.At(small, 2, 5), 33}, {tower.At(small, 2, 6), -1}, {tower.At(small, 3, 0), -1}, {tower.At(small, -1, 0), -1},
		{tower.Next(small, 0, 1), 21}, {tower.Next(small, -1, 1), 15}, {tower.Next(small, 0, 2), -1},
	} {
		if c.got != c.want {
			t.Errorf("place %d: %d, want %d", i, c.got, c.want)
		}
	}
	for _, c := range []struct {
		at, i, part int
		is          bool
	}{{27, 1, 5, true}, {14, -1, 4, true}, {13, 0, 0, false}, {34, 0, 0, false}} {
		if i, part, is := tower.Whose(small, c.at); i != c.i || part != c.part || is != c.is {
			t.Errorf("whose is %d: %d %d %v", c.at, i, part, is)
		}
	}
	m := mem(t, 34, 0)
	tower.Fill(small, m)
	x := tower.NewLay(small, 0x10002, 7, 5, 2)
	checkSteps(t, x, 0x10002, m, store(22, 0, 7), store(23, 0, 5), store(24, 0, 2), store(25, 0, 2))
	checkNode(t, small, 1, m, api.Node{Key: 7, Job: 5, High: 2, Hold: 2, Next: []uint64{0, 0}}, true)
	m.Store(14, 0x10002)
	checkLevel(t, small, 0, m, 1)
	checkLive(t, small, m, 1)
	checkLevel(t, small, 1, m)
	m.Store(26, mark)
	checkLevel(t, small, 0, m, 1)
	checkLive(t, small, m)
}

// The chapter's examples of wrong inputs.
func TestExampleWrong(t *testing.T) {
	for i, c := range []struct {
		x     api.Tower
		cells int
		want  api.Errno
	}{
		{small, 34, api.OK},
		{small, 33, api.ErrArg},
		{small, 0, api.ErrRange},
		{changed(func(t *api.Tower) { t.Heads = 13 }), 34, api.ErrArg},
		{changed(func(t *api.Tower) { t.Height = 5 }), 34, api.ErrArg},
	} {
		if got := tower.Fits(c.x, c.cells); got != c.want {
			t.Errorf("row %d: %v, want %v", i, got, c.want)
		}
	}
	for i, c := range []struct {
		ref         uint64
		job, height int
		want        api.Errno
	}{
		{0x1000000000001, 5, 2, api.ErrForm},
		{0, 5, 2, api.ErrRange},
		{mark | 0x10002, 5, 2, api.ErrRange},
		{0x10002, 5, 3, api.ErrRange},
		{0x10002, -1, 2, api.ErrRange},
	} {
		if got := tower.NewLay(small, c.ref, 7, c.job, c.height).Err(); got != c.want {
			t.Errorf("lay %d: %v, want %v", i, got, c.want)
		}
	}
}

// P15.1: a Fill writes what a Fill of the limbo does, and the head, and nothing else; the head comes last, from the level 0 on.
func TestFill(t *testing.T) {
	for _, c := range []struct {
		change func(*api.Tower)
		cells  int
		last   int
	}{
		{func(*api.Tower) {}, 34, 15},
		{func(x *api.Tower) { x.Height = 1 }, 34, 14},
		{func(x *api.Tower) { x.Height, x.Nodes = 4, 20 }, 50, 17},
		{func(x *api.Tower) { x.Heads, x.Nodes = 33, 14 }, 35, 34},
		{func(x *api.Tower) { x.Heads = 4 }, 34, 5},
		{func(x *api.Tower) { x.Heads = 12 }, 34, 13},
		{func(x *api.Tower) { x.Heads = 33 }, 34, 34},
		{func(x *api.Tower) { x.Heads = 4095 }, 34, 4096},
		{func(x *api.Tower) { x.Heads = 17 }, 34, 18},
		{func(x *api.Tower) { x.Limbo.E.Cores, x.Limbo.A.Worn = 0, -5 }, 34, 15},
		{func(x *api.Tower) { x.Limbo.A.Free.Size, x.Nodes = 1, 4095 }, 34, 15},
		{func(x *api.Tower) { x.Limbo.A.Free.Size, x.Nodes = 128, 0 }, 34, 15},
	} {
		x := changed(c.change)
		m, want := mem(t, c.cells, 99), mem(t, c.cells, 99)
		limbo.Fill(x.Limbo, want)
		for l := range x.Height {
			want.Store(x.Heads+l, 0)
		}
		tower.Fill(x, m)
		checkWords(t, m, want.Words()...)
		if last := m.Last(); m.Count() != want.Count() || last.Kind != api.AccessStore || last.At != c.last {
			t.Errorf("%+v: %d accesses, the last one %+v, want %d, at %d", x, m.Count(), last, want.Count(), c.last)
		}
	}
	for _, x := range unsound() {
		m := mem(t, 34, 99)
		unchanged(t, m, func() { tower.Fill(x, m) })
	}
	for _, m := range []*cells.Mem{nil, {}} {
		tower.Fill(small, m)
		checkWords(t, m)
	}
}

// P15.2: no number is a place, or somebody's, that should not be: of towers that are not sound there is none at all.
func TestNoPlace(t *testing.T) {
	far := []int{math.MinInt, math.MinInt + 3, math.MinInt + 4, math.MinInt + 5, -4096, -5, -4, -3, -2, 5, 127, 128, 4096, math.MaxInt - 4, math.MaxInt - 3, math.MaxInt}
	for _, n := range far {
		for _, near := range []int{-1, 0, 1, 2, 4} {
			for _, at := range []int{tower.At(small, n, near), tower.Next(small, n, near), tower.Next(small, near, n)} {
				if at != -1 {
					t.Errorf("%d and %d: %d", n, near, at)
				}
			}
		}
		for _, i := range []int{n, -1, 0, 2} {
			if n != 5 && tower.At(small, i, n) != -1 {
				t.Errorf("the part %d of %d is a place", n, i)
			}
		}
		if i, part, is := tower.Whose(small, n); i != 0 || part != 0 || is {
			t.Errorf("%d is %d's", n, i)
		}
	}
	for _, x := range unsound() {
		for i := -2; i < 4; i++ {
			for n := -1; n < 9; n++ {
				if tower.At(x, i, n) != -1 || tower.Next(x, i, n) != -1 {
					t.Errorf("%+v has a place of %d, %d", x, i, n)
				}
			}
		}
		for _, at := range append(far, 0, 14, 15, 16, 33, 4095, 4097) {
			if i, part, is := tower.Whose(x, at); i != 0 || part != 0 || is {
				t.Errorf("%+v: %d is %d's", x, at, i)
			}
		}
	}
}

// P15.2: of a cell that belongs to a node and to the head, the node counts; what is beyond memories has an owner all the same.
func TestWhoseTwo(t *testing.T) {
	x := changed(func(x *api.Tower) { x.Heads = 27 })
	for _, c := range []struct{ at, i, part int }{{27, 1, 5}, {28, 2, 0}, {16, 0, 0}} {
		if i, part, is := tower.Whose(x, c.at); i != c.i || part != c.part || !is {
			t.Errorf("whose is %d: %d %d %v", c.at, i, part, is)
		}
	}
	x.Heads = 33
	if i, part, is := tower.Whose(x, 34); i != -1 || part != 5 || !is {
		t.Error("behind the last node is the head's:", i, part, is)
	}
	x.Nodes = 4095
	if i, part, is := tower.Whose(x, 4095+17); i != 2 || part != 5 || !is || tower.At(x, 2, 5) != 4095+17 {
		t.Error("beyond memories:", i, part, is)
	}
}

// P15.3: what is told of a node is what its own cells hold, whatever that is.
func TestNode(t *testing.T) {
	m := filled(t)
	for at := range 34 {
		m.Store(at, uint64(at)<<40+7)
	}
	w := func(at uint64) uint64 { return at<<40 + 7 }
	checkNode(t, small, 0, m, api.Node{Key: w(16), Job: w(17), High: w(18), Hold: w(19), Next: []uint64{w(20), w(21)}}, true)
	checkNode(t, small, 2, m, api.Node{Key: w(28), Job: w(29), High: w(30), Hold: w(31), Next: []uint64{w(32), w(33)}}, true)
	high := changed(func(x *api.Tower) { x.Height = 4 })
	checkNode(t, high, 1, m, api.Node{Key: w(24), Job: w(25), High: w(26), Hold: w(27), Next: []uint64{w(28), w(29), w(30), w(31)}}, true)
	checkNode(t, high, 2, m, api.Node{Key: w(32), Job: w(33), Next: []uint64{0, 0, 0, 0}}, true)
	one := changed(func(x *api.Tower) { x.Height = 1 })
	checkNode(t, one, 1, m, api.Node{Key: w(21), Job: w(22), High: w(23), Hold: w(24), Next: []uint64{w(25)}}, true)
	m.Store(20, math.MaxUint64)
	checkNode(t, one, 0, m, api.Node{Key: w(16), Job: w(17), High: w(18), Hold: w(19), Next: []uint64{math.MaxUint64}}, true)
	for _, i := range []int{math.MinInt, -2, -1, 3, 128, math.MaxInt} {
		checkNode(t, small, i, m, api.Node{}, false)
	}
	for _, x := range unsound() {
		for i := -1; i < 3; i++ {
			checkNode(t, x, i, m, api.Node{}, false)
		}
	}
	for _, m := range []*cells.Mem{nil, {}} {
		checkNode(t, small, 2, m, api.Node{Next: []uint64{0, 0}}, true)
		checkNode(t, small, 3, m, api.Node{}, false)
	}
}

// P15.3: what is returned is new memory.
func TestNew(t *testing.T) {
	m := filled(t)
	m.Store(14, 0x10001)
	m.Store(20, 0x10002)
	m.Store(26, 0)
	for range 2 {
		n, _ := tower.Node(small, 1, m)
		level, live := tower.Level(small, 0, m), tower.Live(small, m)
		if !slices.Equal(n.Next, []uint64{0, 99}) || !slices.Equal(level, []int{0, 1}) || !slices.Equal(live, []int{0, 1}) {
			t.Error("changed:", n, level, live)
		}
		for _, l := range [][]int{level[:cap(level)], live[:cap(live)]} {
			for i := range l {
				l[i] = 77
			}
		}
		for l := range n.Next[:cap(n.Next)] {
			n.Next[:cap(n.Next)][l] = 77
		}
	}
}

// P15.3: how words are read on a level: as indices by their lowest 16 bits, whatever the other ones are, as none if that is no node.
func TestLevel(t *testing.T) {
	for _, c := range []struct {
		head        uint64
		next        [3]uint64
		level, live []int
	}{
		{0, [3]uint64{}, nil, nil},
		{1, [3]uint64{}, []int{0}, []int{0}},
		{0x10003, [3]uint64{0, 0x10001, 0x10002}, []int{2, 1, 0}, []int{2, 1, 0}},
		{0x10003, [3]uint64{mark, 0x10001, 0x10002}, []int{2, 1, 0}, []int{2, 1}},
		{0x10003, [3]uint64{0, mark | 0x10001, 0x10002}, []int{2, 1, 0}, []int{2, 0}},
		{0x10003, [3]uint64{0, 0x10001, mark | 0x10002}, []int{2, 1, 0}, []int{1, 0}},
		{0x10003, [3]uint64{mark, mark | 0x10001, mark | 0x10002}, []int{2, 1, 0}, nil},
		{mark | 0x10003, [3]uint64{0, 0x10001, 0x10002}, []int{2, 1, 0}, []int{2, 1, 0}},
		{math.MaxUint64 - 0xfffe, [3]uint64{0x1000000000002, 0x4000000000000000, 0}, []int{0, 1}, []int{0, 1}},
		{0x10000, [3]uint64{}, nil, nil},
		{4, [3]uint64{}, nil, nil},
		{0x10004, [3]uint64{}, nil, nil},
		{0xffff, [3]uint64{}, nil, nil},
		{math.MaxUint64, [3]uint64{}, nil, nil},
		{mark, [3]uint64{}, nil, nil},
		{2, [3]uint64{2, 4, 2}, []int{1}, []int{1}},
		{2, [3]uint64{2, math.MaxUint64, 2}, []int{1}, nil},
		{1, [3]uint64{1, 0, 0}, []int{0, 0, 0}, []int{0, 0, 0}},
		{1, [3]uint64{2, 1, 0}, []int{0, 1, 0}, []int{0, 1, 0}},
		{1, [3]uint64{2, mark | 1, 0}, []int{0, 1, 0}, []int{0, 0}},
		{1, [3]uint64{mark | 1, 0, 0}, []int{0, 0, 0}, nil},
		{1, [3]uint64{2, 3, 1}, []int{0, 1, 2}, []int{0, 1, 2}},
	} {
		m := filled(t)
		for l := range 2 {
			m.Store(14+l, c.head)
			m.Store(15-l, 0)
			for i, w := range c.next {
				m.Store(20+6*i+l, w)
				m.Store(21+6*i-l, mark)
			}
			checkLevel(t, small, l, m, c.level...)
			if l == 0 {
				checkLevel(t, small, 1, m)
				checkLive(t, small, m, c.live...)
				continue
			}
			checkLevel(t, small, 0, m)
			checkLive(t, small, m)
		}
	}
}

// P15.3: of what is not there there is nothing: levels, towers, memories, cells.
func TestNoLevel(t *testing.T) {
	m := mem(t, 34, 1)
	for _, l := range []int{math.MinInt, -5, -4, -1, 2, 3, 4, math.MaxInt - 4, math.MaxInt - 3, math.MaxInt} {
		checkLevel(t, small, l, m)
	}
	for _, x := range unsound() {
		for l := -1; l < 5; l++ {
			checkLevel(t, x, l, m)
		}
		checkLive(t, x, m)
	}
	for _, m := range []*cells.Mem{nil, {}} {
		checkLevel(t, small, 0, m)
		checkLive(t, small, m)
	}
	checkLevel(t, changed(func(x *api.Tower) { x.Heads = 33 }), 0, m, 0, 0, 0)
	checkLevel(t, changed(func(x *api.Tower) { x.Heads = 33 }), 1, m)
	checkLevel(t, changed(func(x *api.Tower) { x.Heads = 4095 }), 0, m)
	checkLive(t, changed(func(x *api.Tower) { x.Heads = 4095 }), m)
	checkLevel(t, changed(func(x *api.Tower) { x.Nodes = 29 }), 0, m, 0, 0, 0)
	checkLevel(t, changed(func(x *api.Tower) { x.Nodes = 29 }), 1, m, 0)
	checkLive(t, changed(func(x *api.Tower) { x.Nodes = 30 }), m, 0)
	checkLive(t, changed(func(x *api.Tower) { x.Nodes = 4095 }), m, 0)
}

// P15.1 to P15.4: the greatest tower that there is, up to the last cell; each node is laid and is on each level, and every other one is marked.
func TestGreatest(t *testing.T) {
	x := api.Tower{
		Height: 4, Nodes: 4096 - 8*128, Heads: 4096 - 8*128 - 4,
		Limbo: api.Limbo{
			A:    api.Arena{Free: api.Stack{Top: 3, Links: 4, Size: 128}, Gens: 140, Worn: 300, Limit: 1<<32 - 1},
			E:    api.Epoch{At: 301, Pins: 302, Cores: 64},
			Tops: 0,
		},
	}
	m := mem(t, 4096, 99)
	if tower.Fits(x, 4096) != api.OK || tower.Fits(x, 4095) != api.ErrArg {
		t.Fatal("fits:", tower.Fits(x, 4096), tower.Fits(x, 4095))
	}
	tower.Fill(x, m)
	const gen = uint64(1)<<48 - 1<<16
	var level, live []int
	from, own := x.Heads, uint64(0)
	for i := 127; i >= 0; i-- {
		ref := gen | uint64(i+1)
		lay := tower.NewLay(x, ref, api.Idle-uint64(i), api.MaxIndex-i, 1+i%4)
		if n := run(lay, m); n != 4 || lay.Err() != api.OK || lay.By() != ref {
			t.Fatal("lay:", n, lay.Err(), lay.By())
		}
		for l := range 4 {
			m.Store(from+l, own|ref)
		}
		from, own, level = x.Nodes+8*i+4, mark*uint64(i%2), append(level, i)
		if i%2 == 0 {
			live = append(live, i)
		}
	}
	m.Store(from, 0)
	for l := range 4 {
		checkLevel(t, x, l, m, level...)
	}
	checkLive(t, x, m, live...)
	checkNode(t, x, 5, m, api.Node{Key: api.Idle - 5, Job: api.MaxIndex - 5, High: 2, Hold: 2, Next: slices.Repeat([]uint64{mark | gen | 5}, 4)}, true)
	checkNode(t, x, 127, m, api.Node{Key: api.Idle - 127, Job: api.MaxIndex - 127, High: 4, Hold: 2, Next: slices.Repeat([]uint64{mark | gen | 127}, 4)}, true)
}
