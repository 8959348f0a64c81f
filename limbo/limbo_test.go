package limbo_test

import (
	"math"
	"slices"
	"testing"

	"coxswain/api"
	"coxswain/arena"
	"coxswain/cells"
	"coxswain/epoch"
	"coxswain/limbo"
)

// small is the limbo of the chapter's examples.
var small = api.Limbo{
	A:    api.Arena{Free: api.Stack{Top: 0, Links: 1, Size: 3}, Gens: 4, Worn: 7, Limit: 9},
	E:    api.Epoch{At: 8, Pins: 9, Cores: 2},
	Tops: 11,
}

func mem(t *testing.T, words ...uint64) *cells.Mem {
	t.Helper()
	m, err := cells.New(len(words))
	if err != api.OK {
		t.Fatal("memory:", err)
	}
	for at, w := range words {
		m.Store(at, w)
	}
	return m
}

// used is a memory of the small limbo, all of whose nodes are allocated.
func used(t *testing.T) *cells.Mem {
	t.Helper()
	m := mem(t, make([]uint64, 14)...)
	limbo.Fill(small, m)
	checkWords(t, m, 1, 2, 3, 0, 1, 1, 1, 0, 0, 0, 0, 0, 0, 0)
	for range 3 {
		run(arena.NewAlloc(small.A), m)
	}
	checkWords(t, m, 0x30000, 2, 3, 0, 1, 1, 1, 0, 0, 0, 0, 0, 0, 0)
	return m
}

func checkWords(t *testing.T, m *cells.Mem, want ...uint64) {
	t.Helper()
	if got := m.Words(); !slices.Equal(got, want) {
		t.Errorf("words: %x, want %x", got, want)
	}
}

// operation is what all kinds have in common, those of the layers below, too.
type operation interface{ Step(*cells.Mem) bool }

// run makes all steps of an operation, and returns how many these are.
func run(x operation, m *cells.Mem) int {
	n := 1
	for !x.Step(m) {
		n++
	}
	return n
}

// outcome is what an operation came to; a retire tells no number.
func outcome(x operation) (int, api.Errno) {
	switch x := x.(type) {
	case *limbo.Retire:
		return 0, x.Err()
	case *limbo.Collect:
		return x.Many()
	}
	return 0, -1
}

func checkOutcome(t *testing.T, x operation, many int, err api.Errno) {
	t.Helper()
	if n, e := outcome(x); n != many || e != err {
		t.Errorf("outcome: %d %v, want %d %v", n, e, many, err)
	}
}

func load(at int, w uint64) api.Access {
	return api.Access{Kind: api.AccessLoad, At: at, Old: w, New: w}
}

func store(at int, old, new uint64) api.Access {
	return api.Access{Kind: api.AccessStore, At: at, Old: old, New: new, Held: true}
}

func swap(at int, old, new uint64) api.Access {
	return api.Access{Kind: api.AccessCAS, At: at, Old: old, New: new, Held: true}
}

func missed(at int, w uint64) api.Access {
	return api.Access{Kind: api.AccessCAS, At: at, Old: w, New: w}
}

func add(at int, old, new uint64) api.Access {
	return api.Access{Kind: api.AccessAdd, At: at, Old: old, New: new, Held: true}
}

// checkStep makes a step, which is to be one access, and says whether it is to be the last one.
func checkStep(t *testing.T, x operation, m *cells.Mem, want api.Access, end bool) {
	t.Helper()
	checkOutcome(t, x, 0, api.ErrBusy)
	count := m.Count()
	if got := x.Step(m); got != end {
		t.Errorf("step: %v, want %v", got, end)
	}
	if m.Count() != count+1 || m.Last() != want {
		t.Errorf("%d accesses, the last one %+v, want one, %+v", m.Count()-count, m.Last(), want)
	}
}

// checkSome makes some steps, behind each of which there is another one.
func checkSome(t *testing.T, x operation, m *cells.Mem, want ...api.Access) {
	t.Helper()
	for _, a := range want {
		checkStep(t, x, m, a, false)
	}
}

// checkSteps makes all steps that there are, the last of which ends the operation.
func checkSteps(t *testing.T, x operation, m *cells.Mem, want ...api.Access) {
	t.Helper()
	for i, a := range want {
		checkStep(t, x, m, a, i == len(want)-1)
	}
	checkEnded(t, x, m)
}

// checkEnded sees to it that steps behind the end make no access and change no outcome.
func checkEnded(t *testing.T, x operation, m *cells.Mem) {
	t.Helper()
	many, err := outcome(x)
	last, count := m.Last(), m.Count()
	for range 3 {
		if !x.Step(m) || !x.Step(nil) {
			t.Error("it has ended")
		}
		checkOutcome(t, x, many, err)
	}
	if m.Last() != last || m.Count() != count {
		t.Error("an access behind the end")
	}
}

// The chapter's examples.
func TestExample(t *testing.T) {
	m := used(t)
	retire := limbo.NewRetire(small, 1)
	checkSteps(t, retire, m, load(8, 0), load(11, 0), store(2, 3, 0), swap(11, 0, 0x10002))
	checkOutcome(t, retire, 0, api.OK)

	run(epoch.NewPin(small.E, 0), m)
	collect := limbo.NewCollect(small, 0, 0)
	checkSteps(t, collect, m, load(8, 0), load(10, 0), swap(8, 0, 1), load(13, 0))
	checkOutcome(t, collect, 0, api.OK)
	run(epoch.NewUnpin(small.E, 0), m)

	run(epoch.NewPin(small.E, 0), m)
	collect = limbo.NewCollect(small, 0, 1)
	checkSteps(t, collect, m, load(8, 1), load(10, 0), swap(8, 1, 2),
		load(11, 0x10002), swap(11, 0x10002, 0x20000), load(2, 0),
		load(5, 1), store(5, 1, 2), load(0, 0x30000), store(2, 0, 0), swap(0, 0x30000, 0x40002))
	checkOutcome(t, collect, 1, api.OK)
	run(epoch.NewUnpin(small.E, 0), m)
	checkWords(t, m, 0x40002, 2, 0, 0, 1, 2, 1, 0, 2, 0, 0, 0x20000, 0, 0)

	run(epoch.NewPin(small.E, 0), m)
	collect = limbo.NewCollect(small, 0, 2)
	checkSteps(t, collect, m, load(8, 2), load(10, 0), swap(8, 2, 3), load(12, 0))
	checkOutcome(t, collect, 0, api.OK)

	collect = limbo.NewCollect(small, 0, 0)
	checkSteps(t, collect, m, load(8, 3))
	checkOutcome(t, collect, 0, api.ErrBusy)
	m.Store(10, 3)
	collect = limbo.NewCollect(small, 0, 3)
	checkSteps(t, collect, m, load(8, 3), load(10, 3))
	checkOutcome(t, collect, 0, api.ErrBusy)
	checkWords(t, m, 0x40002, 2, 0, 0, 1, 2, 1, 0, 3, 3, 3, 0x20000, 0, 0)
}

// P13.1: which limbos fit, in words of the term: cells that are there, none of them twice. Each part is moved over all of the others.
func TestFits(t *testing.T) {
	for _, n := range []int{math.MinInt, -1, 0, 1, 2, 10, 12, 13, 14, 15, 20, 4096, 4097, math.MaxInt} {
		for _, at := range []int{math.MinInt, -3, -2, -1, 0, 1, 2, 3, 4, 5, 6, 7, 8, 9, 10, 11, 12, 13, 14, 15, 16, 17, 4092, 4093, 4094, 4095, 4096, math.MaxInt - 2, math.MaxInt - 1, math.MaxInt} {
			for part := range 7 {
				l := small
				*[]*int{&l.A.Free.Top, &l.A.Free.Links, &l.A.Gens, &l.A.Worn, &l.E.At, &l.E.Pins, &l.Tops}[part] = at
				checkFits(t, l, n)
			}
		}
		for _, many := range []int{math.MinInt, -1, 0, 1, 2, 3, 4, 64, 65, 4096, math.MaxInt} {
			l := small
			l.E.Cores = many
			checkFits(t, l, n)
			l.E.Pins = 14
			checkFits(t, l, n)
			l.A.Free.Size = many
			checkFits(t, l, n)
			l = small
			l.A.Free.Size = many
			checkFits(t, l, n)
			l = small
			l.A.Limit = many
			checkFits(t, l, n)
		}
	}
}

// P13.1: all places of two parts at once.
func TestFitsTwo(t *testing.T) {
	l := api.Limbo{A: api.Arena{Free: api.Stack{Top: 0, Links: 1, Size: 2}, Gens: 3, Worn: 5, Limit: 1}, E: api.Epoch{At: 6, Pins: 7, Cores: 2}, Tops: 9}
	fit := 0
	for tops := -1; tops <= 14; tops++ {
		for at := -1; at <= 14; at++ {
			for pins := -1; pins <= 14; pins++ {
				l.Tops, l.E.At, l.E.Pins = tops, at, pins
				checkFits(t, l, 13)
				if limbo.Fits(l, 13) == api.OK {
					fit++
				}
			}
		}
	}
	// Of the cells 6 to 12, three in a row, two in a row, and one: 6 orders of the parts, and one cell left between them.
	if fit != 6*4 {
		t.Error("so many fit:", fit)
	}
}

// P13.1: the greatest limbos that there are.
func TestFitsFull(t *testing.T) {
	l := api.Limbo{A: api.Arena{Free: api.Stack{Top: 4095, Links: 0, Size: 2013}, Gens: 2013, Worn: 4094, Limit: math.MaxUint32}, E: api.Epoch{At: 4026, Pins: 4030, Cores: 64}, Tops: 4027}
	checkFits(t, l, 4096)
	if limbo.Fits(l, 4096) != api.OK {
		t.Error("it fits")
	}
	for _, tops := range []int{4024, 4025, 4026, 4028, 4092, 4093, 4094} {
		l.Tops = tops
		checkFits(t, l, 4096)
	}
	checkFits(t, api.Limbo{}, 4096)
}

func checkFits(t *testing.T, l api.Limbo, n int) {
	t.Helper()
	if got, want := limbo.Fits(l, n), fits(l, n); got != want {
		t.Fatalf("%+v in %d cells: %v, want %v", l, n, got, want)
	}
}

func fits(l api.Limbo, n int) api.Errno {
	if n < 1 || n > 4096 {
		return api.ErrRange
	}
	if arena.Fits(l.A, n) != api.OK || epoch.Fits(l.E, n) != api.OK {
		return api.ErrArg
	}
	all := []int{l.A.Free.Top, l.A.Worn, l.E.At, l.Tops, l.Tops + 1, l.Tops + 2}
	for i := range l.A.Free.Size {
		all = append(all, l.A.Free.Links+i, l.A.Gens+i)
	}
	for c := range l.E.Cores {
		all = append(all, l.E.Pins+c)
	}
	slices.Sort(all)
	if all[0] < 0 || all[len(all)-1] >= n || len(slices.Compact(slices.Clone(all))) != len(all) {
		return api.ErrArg
	}
	return api.OK
}

// P13.1: what Fill stores, where, and in which order: cells that are had twice hold what was stored last.
func TestFill(t *testing.T) {
	for _, c := range []struct {
		change func(*api.Limbo)
		want   []uint64
		count  int
		last   int
	}{
		{func(l *api.Limbo) {}, []uint64{1, 2, 3, 0, 1, 1, 1, 0, 0, 0, 0, 0, 0, 0, 9}, 14, 13},
		{func(l *api.Limbo) { l.Tops = 12 }, []uint64{1, 2, 3, 0, 1, 1, 1, 0, 0, 0, 0, 9, 0, 0, 0}, 14, 14},
		{func(l *api.Limbo) { l.Tops = 4 }, []uint64{1, 2, 3, 0, 0, 0, 0, 0, 0, 0, 0, 9, 9, 9, 9}, 14, 6},
		{func(l *api.Limbo) { l.E.At = 5 }, []uint64{1, 2, 3, 0, 1, 0, 1, 0, 9, 0, 0, 0, 0, 0, 9}, 14, 13},
		{func(l *api.Limbo) { l.E.Pins = 0 }, []uint64{0, 0, 3, 0, 1, 1, 1, 0, 0, 9, 9, 0, 0, 0, 9}, 14, 13},
		{func(l *api.Limbo) { l.Tops = -1 }, []uint64{0, 0, 3, 0, 1, 1, 1, 0, 0, 0, 0, 9, 9, 9, 9}, 14, 1},
		{func(l *api.Limbo) { l.Tops = 14 }, []uint64{1, 2, 3, 0, 1, 1, 1, 0, 0, 0, 0, 9, 9, 9, 0}, 14, 16},
		{func(l *api.Limbo) { l.Tops = math.MaxInt }, []uint64{1, 2, 3, 0, 1, 1, 1, 0, 0, 0, 0, 9, 9, 9, 9}, 14, math.MinInt + 1},
		{func(l *api.Limbo) { l.A.Free.Size = 0 }, []uint64{9, 9, 9, 9, 9, 9, 9, 9, 0, 0, 0, 0, 0, 0, 9}, 6, 13},
		{func(l *api.Limbo) { l.A.Free.Size = 4097 }, []uint64{9, 9, 9, 9, 9, 9, 9, 9, 0, 0, 0, 0, 0, 0, 9}, 6, 13},
		{func(l *api.Limbo) { l.E.Cores = 0 }, []uint64{1, 2, 3, 0, 1, 1, 1, 0, 9, 9, 9, 0, 0, 0, 9}, 11, 13},
		{func(l *api.Limbo) { l.E.Cores = 65 }, []uint64{1, 2, 3, 0, 1, 1, 1, 0, 9, 9, 9, 0, 0, 0, 9}, 11, 13},
		{func(l *api.Limbo) { l.E.Cores, l.A.Free.Size = -1, -1 }, []uint64{9, 9, 9, 9, 9, 9, 9, 9, 9, 9, 9, 0, 0, 0, 9}, 3, 13},
	} {
		l, m := small, mem(t, 9, 9, 9, 9, 9, 9, 9, 9, 9, 9, 9, 9, 9, 9, 9)
		c.change(&l)
		count := m.Count()
		limbo.Fill(l, m)
		checkWords(t, m, c.want...)
		if last := m.Last(); m.Count()-count != c.count || last.Kind != api.AccessStore || last.At != c.last {
			t.Errorf("%+v: %d accesses, the last one %+v", l, m.Count()-count, last)
		}
	}
	limbo.Fill(small, nil)
	limbo.Fill(small, &cells.Mem{})
	limbo.Fill(api.Limbo{}, mem(t, 1))
}

// P13.2: a node waits on the stack of the epoch, modulo 2^32, at which it is retired.
func TestRetireWhere(t *testing.T) {
	for _, c := range []struct {
		word uint64
		at   int
	}{
		{0, 11}, {1, 12}, {2, 13}, {3, 11}, {4, 12}, {5, 13}, {100, 12},
		{math.MaxUint32, 11}, {math.MaxUint32 - 1, 13}, {math.MaxUint32 - 2, 12},
		{1 << 32, 11}, {1<<32 + 1, 12}, {1<<33 + 5, 13}, {1 << 63, 11}, {1<<63 + 1, 12}, {math.MaxUint64, 11}, {math.MaxUint64 - 1, 13},
	} {
		m := used(t)
		m.Store(8, c.word)
		x := limbo.NewRetire(small, 2)
		checkSteps(t, x, m, load(8, c.word), load(c.at, 0), store(3, 0, 0), swap(c.at, 0, 0x10003))
		checkOutcome(t, x, 0, api.OK)
		x = limbo.NewRetire(small, 0)
		checkSteps(t, x, m, load(8, c.word), load(c.at, 0x10003), store(1, 2, 3), swap(c.at, 0x10003, 0x20001))
		checkOutcome(t, x, 0, api.OK)
	}
}

// P13.2: a retire begins its push anew when the top was changed, and does not ask for the epoch again.
func TestRetireAgain(t *testing.T) {
	m := used(t)
	m.Store(8, 4)
	m.Store(12, 0x70003)
	x := limbo.NewRetire(small, 0)
	checkSome(t, x, m, load(8, 4))
	m.Store(8, 5)
	checkSome(t, x, m, load(12, 0x70003), store(1, 2, 3))
	m.Store(12, 0x80003)
	checkSome(t, x, m, missed(12, 0x80003), load(12, 0x80003), store(1, 3, 3))
	m.Store(12, 0x90009)
	checkSome(t, x, m, missed(12, 0x90009), load(12, 0x90009))
	checkSteps(t, x, m, store(1, 3, 0), swap(12, 0x90009, 0xa0001))
	checkOutcome(t, x, 0, api.OK)
	checkWords(t, m, 0x30000, 0, 3, 0, 1, 1, 1, 0, 5, 0, 0, 0, 0xa0001, 0)
}

// waiting is a memory of the small limbo at an epoch, with nodes that wait on the stack of a top, the first one on it first.
func waiting(t *testing.T, now uint64, top int, nodes ...int) *cells.Mem {
	t.Helper()
	m := used(t)
	m.Store(8, now)
	m.Store(top, 0x50000|uint64(nodes[0]+1))
	for k, i := range nodes {
		next := uint64(0)
		if k+1 < len(nodes) {
			next = uint64(nodes[k+1] + 1)
		}
		m.Store(1+i, next)
	}
	return m
}

// P13.2: a collect empties the stack of the epoch before its own one, and no other.
func TestCollectWhere(t *testing.T) {
	for _, c := range []struct {
		word uint64
		own  int
		next uint64
		at   int
	}{
		{0, 0, 1, 13}, {1, 1, 2, 11}, {2, 2, 3, 12}, {3, 3, 4, 13}, {100, 100, 101, 11},
		{1<<32 + 1, 1, 2, 11}, {math.MaxUint64 - 1, math.MaxUint32 - 1, math.MaxUint32, 12},
		{math.MaxUint32, math.MaxUint32, 1 << 32, 13},
	} {
		for at := 11; at <= 13; at++ {
			m := waiting(t, c.word, at, 1)
			x := limbo.NewCollect(small, 1, c.own)
			if at != c.at {
				checkSteps(t, x, m, load(8, c.word), load(9, 0), swap(8, c.word, c.next), load(c.at, 0))
				checkOutcome(t, x, 0, api.OK)
				continue
			}
			checkSteps(t, x, m, load(8, c.word), load(9, 0), swap(8, c.word, c.next),
				load(at, 0x50002), swap(at, 0x50002, 0x60000), load(2, 0),
				load(5, 1), store(5, 1, 2), load(0, 0x30000), store(2, 0, 0), swap(0, 0x30000, 0x40002))
			checkOutcome(t, x, 1, api.OK)
		}
	}
}

// P13.2: those that wait are freed from the first one on, the link of each being loaded ahead of its free.
func TestCollectMany(t *testing.T) {
	m := waiting(t, 4, 11, 2, 0, 1)
	x := limbo.NewCollect(small, 0, 4)
	checkSome(t, x, m, load(8, 4), load(10, 0), swap(8, 4, 5), load(11, 0x50003), swap(11, 0x50003, 0x60000))
	checkSome(t, x, m, load(3, 1), load(6, 1), store(6, 1, 2), load(0, 0x30000), store(3, 1, 0), swap(0, 0x30000, 0x40003))
	checkSome(t, x, m, load(1, 2), load(4, 1), store(4, 1, 2), load(0, 0x40003), store(1, 2, 3), swap(0, 0x40003, 0x50001))
	checkSteps(t, x, m, load(2, 0), load(5, 1), store(5, 1, 2), load(0, 0x50001), store(2, 0, 1), swap(0, 0x50001, 0x60002))
	checkOutcome(t, x, 3, api.OK)
	checkWords(t, m, 0x60002, 3, 1, 0, 2, 2, 2, 0, 5, 0, 0, 0x60000, 0, 0)
}

// P13.2: nodes that are worn then are freed, too, and counted.
func TestCollectWorn(t *testing.T) {
	m := waiting(t, 4, 11, 1, 2)
	m.Store(5, 9)
	x := limbo.NewCollect(small, 0, 4)
	checkSome(t, x, m, load(8, 4), load(10, 0), swap(8, 4, 5), load(11, 0x50002), swap(11, 0x50002, 0x60000))
	checkSome(t, x, m, load(2, 3), load(5, 9), add(7, 0, 1))
	m.Store(6, 10)
	checkSteps(t, x, m, load(3, 0), load(6, 10), add(7, 1, 2))
	checkOutcome(t, x, 2, api.OK)
	checkWords(t, m, 0x30000, 2, 3, 0, 1, 9, 10, 2, 5, 0, 0, 0x60000, 0, 0)
}

// P13.2: a link is read as an index whatever its tag, and as none if that is no node.
func TestCollectLinks(t *testing.T) {
	for _, c := range []struct {
		link uint64
		next int
	}{{0x12340001, 0}, {math.MaxUint64 - 0xffff + 1, 0}, {0x80000, -1}, {4, -1}, {0xffff, -1}, {math.MaxUint64, -1}, {3, 2}, {0x30003, 2}} {
		m := waiting(t, 1, 11, 1)
		m.Store(4, 9)
		m.Store(5, 9)
		m.Store(6, 9)
		m.Store(1, 0)
		m.Store(3, 0)
		x := limbo.NewCollect(small, 0, 1)
		checkSome(t, x, m, load(8, 1), load(10, 0), swap(8, 1, 2), load(11, 0x50002), swap(11, 0x50002, 0x60000))
		m.Store(2, c.link)
		checkSome(t, x, m, load(2, c.link))
		m.Store(2, 2)
		checkSome(t, x, m, load(5, 9))
		if c.next < 0 {
			checkSteps(t, x, m, add(7, 0, 1))
			checkOutcome(t, x, 1, api.OK)
			continue
		}
		checkSome(t, x, m, add(7, 0, 1), load(1+c.next, 0), load(4+c.next, 9))
		checkSteps(t, x, m, add(7, 1, 2))
		checkOutcome(t, x, 2, api.OK)
	}
}

// P13.2: after as many as there are nodes it ends in any case.
func TestCollectRound(t *testing.T) {
	m := waiting(t, 1, 11, 1)
	m.Store(2, 2)
	m.Store(5, 20)
	x := limbo.NewCollect(small, 0, 1)
	checkSome(t, x, m, load(8, 1), load(10, 0), swap(8, 1, 2), load(11, 0x50002), swap(11, 0x50002, 0x60000))
	checkSome(t, x, m, load(2, 2), load(5, 20), add(7, 0, 1), load(2, 2), load(5, 20), add(7, 1, 2))
	checkSteps(t, x, m, load(2, 2), load(5, 20), add(7, 2, 3))
	checkOutcome(t, x, 3, api.OK)

	one := small
	one.A.Free.Size = 1
	m = waiting(t, 1, 11, 0)
	m.Store(1, 1)
	x = limbo.NewCollect(one, 0, 1)
	checkSome(t, x, m, load(8, 1), load(10, 0), swap(8, 1, 2), load(11, 0x50001), swap(11, 0x50001, 0x60000))
	checkSteps(t, x, m, load(1, 1), load(4, 1), store(4, 1, 2), load(0, 0x30000), store(1, 1, 0), swap(0, 0x30000, 0x40001))
	checkOutcome(t, x, 1, api.OK)
}

// P13.2: a collect is refused at any step of its advance, and touches no stack then.
func TestCollectRefused(t *testing.T) {
	for _, own := range []int{0, 2, 1 << 32, 1<<32 + 1, math.MaxInt} {
		m := waiting(t, 1, 11, 1)
		x := limbo.NewCollect(small, 0, own)
		checkSteps(t, x, m, load(8, 1))
		checkOutcome(t, x, 0, api.ErrBusy)
	}
	for _, pin := range []uint64{1, 3, 4, 1<<32 + 2, math.MaxUint64} {
		m := waiting(t, 1, 11, 1)
		m.Store(9, pin)
		x := limbo.NewCollect(small, 1, 1)
		checkSteps(t, x, m, load(8, 1), load(9, pin))
		checkOutcome(t, x, 0, api.ErrBusy)
	}
	m := waiting(t, 1, 11, 1)
	x := limbo.NewCollect(small, 1, 1)
	checkSome(t, x, m, load(8, 1), load(9, 0))
	m.Store(8, 2)
	checkSteps(t, x, m, missed(8, 2))
	checkOutcome(t, x, 0, api.ErrBusy)
	checkWords(t, m, 0x30000, 2, 0, 0, 1, 1, 1, 0, 2, 0, 0, 0x50002, 0, 0)
}

// P13.2: a collect begins to take anew when somebody has come between, and finds what there is then.
func TestCollectAgain(t *testing.T) {
	m := waiting(t, 1, 11, 1)
	x := limbo.NewCollect(small, 1, 1)
	checkSome(t, x, m, load(8, 1), load(9, 0), swap(8, 1, 2), load(11, 0x50002))
	m.Store(8, 70)
	m.Store(11, 0x60003)
	checkSome(t, x, m, missed(11, 0x60003), load(11, 0x60003))
	m.Store(11, 0x70001)
	checkSome(t, x, m, missed(11, 0x70001), load(11, 0x70001), swap(11, 0x70001, 0x80000))
	m.Store(1, 0)
	checkSome(t, x, m, load(1, 0))
	m.Store(1, 2)
	checkSome(t, x, m, load(4, 1), store(4, 1, 2), load(0, 0x30000), store(1, 2, 0))
	m.Store(0, 0x40000)
	checkSome(t, x, m, missed(0, 0x40000), load(0, 0x40000), store(1, 0, 0))
	checkSteps(t, x, m, swap(0, 0x40000, 0x50001))
	checkOutcome(t, x, 1, api.OK)

	for _, top := range []uint64{0, 0x60000, 4, 0x6ffff} {
		m = waiting(t, 1, 11, 1)
		x = limbo.NewCollect(small, 1, 1)
		checkSome(t, x, m, load(8, 1), load(9, 0), swap(8, 1, 2), load(11, 0x50002))
		m.Store(11, top)
		checkSome(t, x, m, missed(11, top))
		checkSteps(t, x, m, load(11, top))
		checkOutcome(t, x, 0, api.OK)
	}
}

// P13.2: the operations of no node, of no core, and at no epoch have ended at once.
func TestRange(t *testing.T) {
	m := used(t)
	count := m.Count()
	for _, i := range []int{math.MinInt, -1, 3, 4, 1 << 16, 1 << 32, math.MaxInt} {
		x := limbo.NewRetire(small, i)
		checkOutcome(t, x, 0, api.ErrRange)
		checkEnded(t, x, m)
	}
	for _, c := range []struct{ core, own int }{
		{math.MinInt, 0}, {-1, 0}, {2, 0}, {3, 0}, {1 << 32, 0}, {math.MaxInt, 0}, {2, 1}, {-1, math.MaxInt},
		{0, -1}, {1, -1}, {0, math.MinInt}, {1, -3}, {0, -1 << 32}, {2, -1}, {-1, -1},
	} {
		x := limbo.NewCollect(small, c.core, c.own)
		checkOutcome(t, x, 0, api.ErrRange)
		checkEnded(t, x, m)
	}
	if m.Count() != count {
		t.Error("of none an access")
	}
	for i := range 3 {
		checkOutcome(t, limbo.NewRetire(small, i), 0, api.ErrBusy)
	}
	for core := range 2 {
		for _, own := range []int{0, 1, 1 << 32, math.MaxInt} {
			checkOutcome(t, limbo.NewCollect(small, core, own), 0, api.ErrBusy)
		}
	}
}

// P13.2: operations that no function made.
func TestInvalid(t *testing.T) {
	m := used(t)
	count := m.Count()
	for _, x := range []operation{(*limbo.Retire)(nil), &limbo.Retire{}, (*limbo.Collect)(nil), &limbo.Collect{}} {
		checkOutcome(t, x, 0, api.ErrNil)
		checkEnded(t, x, m)
	}
	if m.Count() != count {
		t.Error("of none an access")
	}
}

// P13.2: without a memory, what is loaded is 0, and no swap succeeds: no push ends, and no advance is let on.
func TestNoMemory(t *testing.T) {
	for _, m := range []*cells.Mem{nil, {}} {
		retire := limbo.NewRetire(small, 1)
		for range 50 {
			if retire.Step(m) {
				t.Error("a push has ended")
			}
			checkOutcome(t, retire, 0, api.ErrBusy)
		}
		for own, steps := range []int{3, 1} {
			x := limbo.NewCollect(small, 0, own)
			if n := run(x, m); n != steps {
				t.Errorf("at %d: %d steps, want %d", own, n, steps)
			}
			checkOutcome(t, x, 0, api.ErrBusy)
		}
		x, there := limbo.NewCollect(small, 0, 0), used(t)
		checkSome(t, x, there, load(8, 0), load(10, 0), swap(8, 0, 1))
		if !x.Step(m) {
			t.Error("where nothing waits it ends")
		}
		checkOutcome(t, x, 0, api.OK)
	}
}

// P13.2: an operation that is stepped in another memory continues there.
func TestOtherMemory(t *testing.T) {
	m, other := waiting(t, 1, 11, 1), waiting(t, 1, 11, 2, 0)
	x := limbo.NewCollect(small, 0, 1)
	checkSome(t, x, m, load(8, 1), load(10, 0), swap(8, 1, 2))
	checkSome(t, x, other, load(11, 0x50003), swap(11, 0x50003, 0x60000))
	checkSome(t, x, m, load(3, 0))
	checkSome(t, x, other, load(6, 1))
	checkSome(t, x, m, store(6, 1, 2), load(0, 0x30000), store(3, 0, 0))
	checkSteps(t, x, m, swap(0, 0x30000, 0x40003))
	checkOutcome(t, x, 1, api.OK)
	checkWords(t, other, 0x30000, 0, 3, 1, 1, 1, 1, 0, 1, 0, 0, 0x60000, 0, 0)
}

// Limbos that are not valid have operations nevertheless, of the nodes and cores that they say they have.
func TestOdd(t *testing.T) {
	l, m := small, used(t)
	l.Tops = math.MaxInt
	m.Store(8, 1)
	x := limbo.NewRetire(l, 0)
	checkSome(t, x, m, load(8, 1), load(math.MinInt, 0), store(1, 2, 0), missed(math.MinInt, 0), load(math.MinInt, 0))

	for _, size := range []int{math.MinInt, -1, 0} {
		l = small
		l.A.Free.Size = size
		for i := -1; i <= 1; i++ {
			checkOutcome(t, limbo.NewRetire(l, i), 0, api.ErrRange)
		}
		m = waiting(t, 1, 11, 1)
		collect := limbo.NewCollect(l, 0, 1)
		checkSteps(t, collect, m, load(8, 1), load(10, 0), swap(8, 1, 2), load(11, 0x50002))
		checkOutcome(t, collect, 0, api.OK)
	}

	l = small
	l.A.Free.Size, l.A.Free.Links = math.MaxInt, math.MaxInt
	m = waiting(t, 1, 11, 1)
	m.Store(5, 9)
	collect := limbo.NewCollect(l, 0, 1)
	checkSome(t, collect, m, load(8, 1), load(10, 0), swap(8, 1, 2), load(11, 0x50002), swap(11, 0x50002, 0x60000), load(math.MinInt, 0), load(5, 9))
	checkSteps(t, collect, m, add(7, 0, 1))
	checkOutcome(t, collect, 1, api.OK)

	l = small
	l.E.Cores = 0
	for c := -1; c <= 1; c++ {
		checkOutcome(t, limbo.NewCollect(l, c, 0), 0, api.ErrRange)
	}
}
