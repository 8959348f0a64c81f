package epoch_test

import (
	"math"
	"slices"
	"testing"

	"coxswain/api"
	"coxswain/cells"
	"coxswain/epoch"
)

// small is the epoch of the chapter's examples.
var small = api.Epoch{At: 0, Pins: 1, Cores: 3}

func mem(t *testing.T, words ...uint64) *cells.Mem {
	t.Helper()
	m, err := cells.New(len(words))
	if err != api.OK {
		t.Fatal("memory:", err)
	}
	for at, w := range words {
		m.Store(at, w)
	}
	return m
}

func checkWords(t *testing.T, m *cells.Mem, want ...uint64) {
	t.Helper()
	if got := m.Words(); !slices.Equal(got, want) {
		t.Errorf("words: %x, want %x", got, want)
	}
}

// operation is what all kinds have in common.
type operation interface{ Step(*cells.Mem) bool }

// outcome is what an operation came to; only a pin has an epoch.
func outcome(x operation) (int, api.Errno) {
	switch x := x.(type) {
	case *epoch.Pin:
		return x.At()
	case *epoch.Unpin:
		return 0, x.Err()
	case *epoch.Advance:
		return 0, x.Err()
	}
	return 0, -1
}

func checkOutcome(t *testing.T, x operation, at int, err api.Errno) {
	t.Helper()
	if p, e := outcome(x); p != at || e != err {
		t.Errorf("outcome: %d %v, want %d %v", p, e, at, err)
	}
}

func load(at int, w uint64) api.Access {
	return api.Access{Kind: api.AccessLoad, At: at, Old: w, New: w}
}

func store(at int, old, new uint64) api.Access {
	return api.Access{Kind: api.AccessStore, At: at, Old: old, New: new, Held: true}
}

func swap(at int, old, new uint64) api.Access {
	return api.Access{Kind: api.AccessCAS, At: at, Old: old, New: new, Held: true}
}

func missed(at int, w uint64) api.Access {
	return api.Access{Kind: api.AccessCAS, At: at, Old: w, New: w}
}

// checkStep makes a step, which is to be one access, and says whether it is to be the last one.
func checkStep(t *testing.T, x operation, m *cells.Mem, want api.Access, end bool) {
	t.Helper()
	checkOutcome(t, x, 0, api.ErrBusy)
	count := m.Count()
	if got := x.Step(m); got != end {
		t.Errorf("step: %v, want %v", got, end)
	}
	if m.Count() != count+1 || m.Last() != want {
		t.Errorf("%d accesses, the last one %+v, want one, %+v", m.Count()-count, m.Last(), want)
	}
}

// checkSteps makes all steps of an operation, the last of which ends it.
func checkSteps(t *testing.T, x operation, m *cells.Mem, want ...api.Access) {
	t.Helper()
	for i, a := range want {
		checkStep(t, x, m, a, i == len(want)-1)
	}
	checkEnded(t, x, m)
}

// checkEnded sees to it that steps behind the end make no access and change no outcome.
func checkEnded(t *testing.T, x operation, m *cells.Mem) {
	t.Helper()
	at, err := outcome(x)
	last, count := m.Last(), m.Count()
	for range 3 {
		if !x.Step(m) || !x.Step(nil) {
			t.Error("it has ended")
		}
		checkOutcome(t, x, at, err)
	}
	if m.Last() != last || m.Count() != count {
		t.Error("an access behind the end")
	}
}

// checkTold sees to it that the current epoch and the pins are told, without an access.
func checkTold(t *testing.T, e api.Epoch, m *cells.Mem, now int, pinned ...int) {
	t.Helper()
	count := m.Count()
	if got := epoch.Now(e, m); got != now {
		t.Errorf("%+v: now %d, want %d", e, got, now)
	}
	if got := epoch.Pinned(e, m); !slices.Equal(got, pinned) {
		t.Errorf("%+v: pinned %d, want %d", e, got, pinned)
	}
	if m.Count() != count {
		t.Error("an access")
	}
}

// The chapter's examples.
func TestExample(t *testing.T) {
	m := mem(t, 9, 9, 9, 9)
	epoch.Fill(small, m)
	checkWords(t, m, 0, 0, 0, 0)

	pin := epoch.NewPin(small, 1)
	checkSteps(t, pin, m, load(0, 0), store(2, 0, 1), load(0, 0))
	checkOutcome(t, pin, 0, api.OK)
	checkWords(t, m, 0, 0, 1, 0)
	checkTold(t, small, m, 0, -1, 0, -1)
	advance := epoch.NewAdvance(small, 1, 0)
	checkSteps(t, advance, m, load(0, 0), load(1, 0), load(3, 0), swap(0, 0, 1))
	checkOutcome(t, advance, 0, api.OK)
	checkTold(t, small, m, 1, -1, 0, -1)
	advance = epoch.NewAdvance(small, 1, 0)
	checkSteps(t, advance, m, load(0, 1))
	checkOutcome(t, advance, 0, api.ErrBusy)

	pin = epoch.NewPin(small, 0)
	checkSteps(t, pin, m, load(0, 1), store(1, 0, 2), load(0, 1))
	checkOutcome(t, pin, 1, api.OK)
	advance = epoch.NewAdvance(small, 0, 1)
	checkSteps(t, advance, m, load(0, 1), load(2, 1))
	checkOutcome(t, advance, 0, api.ErrBusy)
	unpin := epoch.NewUnpin(small, 1)
	checkSteps(t, unpin, m, store(2, 1, 0))
	checkOutcome(t, unpin, 0, api.OK)
	advance = epoch.NewAdvance(small, 0, 1)
	checkSteps(t, advance, m, load(0, 1), load(2, 0), load(3, 0), swap(0, 1, 2))
	checkOutcome(t, advance, 0, api.OK)
	checkTold(t, small, m, 2, 1, -1, -1)

	late := epoch.NewPin(small, 2)
	checkStep(t, late, m, load(0, 2), false)
	checkSteps(t, epoch.NewUnpin(small, 0), m, store(1, 2, 0))
	checkSteps(t, epoch.NewPin(small, 0), m, load(0, 2), store(1, 0, 3), load(0, 2))
	advance = epoch.NewAdvance(small, 0, 2)
	checkSteps(t, advance, m, load(0, 2), load(2, 0), load(3, 0), swap(0, 2, 3))
	checkOutcome(t, advance, 0, api.OK)
	checkSteps(t, late, m, store(3, 0, 3), load(0, 3), store(3, 3, 4), load(0, 3))
	checkOutcome(t, late, 3, api.OK)
	checkTold(t, small, m, 3, 2, -1, 3)

	checkOutcome(t, epoch.NewPin(small, 3), 0, api.ErrRange)
	checkOutcome(t, epoch.NewUnpin(small, -1), 0, api.ErrRange)
	none, twice := small, small
	none.Cores, twice.At = 0, 2
	for _, c := range []struct {
		e     api.Epoch
		cells int
		want  api.Errno
	}{{small, 4, api.OK}, {small, 3, api.ErrArg}, {none, 4, api.ErrArg}, {twice, 4, api.ErrArg}, {small, 0, api.ErrRange}} {
		if got := epoch.Fits(c.e, c.cells); got != c.want {
			t.Errorf("%+v in %d cells: %v, want %v", c.e, c.cells, got, c.want)
		}
	}
}

// P12.1: which epochs fit, in words of the term: cells that are there, none of them twice.
func TestFits(t *testing.T) {
	for _, n := range []int{-1, 0, 1, 2, 3, 5, 7} {
		for cores := -1; cores <= 7; cores++ {
			for at := -2; at <= 8; at++ {
				for pins := -2; pins <= 8; pins++ {
					checkFits(t, api.Epoch{At: at, Pins: pins, Cores: cores}, n)
				}
			}
		}
	}
}

// P12.1: numbers so great that sums of them wrap round, the greatest number of cores, and memories of all sizes.
func TestFitsFar(t *testing.T) {
	far := []int{math.MinInt, math.MinInt + 1, -64, -1, 0, 1, 63, 64, 65, 66, 4031, 4032, 4033, 4094, 4095, 4096, 1 << 32, math.MaxInt - 64, math.MaxInt - 63, math.MaxInt}
	for _, n := range []int{math.MinInt, -1, 0, 1, 64, 65, 66, 4095, 4096, 4097, 1 << 32, math.MaxInt} {
		for _, at := range far {
			for _, pins := range far {
				for _, cores := range far {
					checkFits(t, api.Epoch{At: at, Pins: pins, Cores: cores}, n)
				}
			}
		}
	}
}

func checkFits(t *testing.T, e api.Epoch, n int) {
	t.Helper()
	if got, want := epoch.Fits(e, n), fits(e, n); got != want {
		t.Fatalf("%+v in %d cells: %v, want %v", e, n, got, want)
	}
}

func fits(e api.Epoch, n int) api.Errno {
	if n < 1 || n > 4096 {
		return api.ErrRange
	}
	if e.Cores < 1 || e.Cores > 64 {
		return api.ErrArg
	}
	has := map[int]bool{}
	for i := range e.Cores + 1 {
		at := e.Pins + i
		if i == e.Cores {
			at = e.At
		}
		if at < 0 || at >= n || has[at] {
			return api.ErrArg
		}
		has[at] = true
	}
	return api.OK
}

// P12.1: what Fill stores, where, and in which order.
func TestFill(t *testing.T) {
	for _, c := range []struct {
		e    api.Epoch
		want []uint64
		last int
	}{
		{small, []uint64{0, 0, 0, 0, 9, 9}, 3},
		{api.Epoch{At: 5, Pins: 1, Cores: 1}, []uint64{9, 0, 9, 9, 9, 0}, 1},
		{api.Epoch{At: 3, Pins: 0, Cores: 2}, []uint64{0, 0, 9, 0, 9, 9}, 1},
		{api.Epoch{At: 2, Pins: 2, Cores: 2}, []uint64{9, 9, 0, 0, 9, 9}, 3},
		{api.Epoch{At: -1, Pins: -2, Cores: 4}, []uint64{0, 0, 9, 9, 9, 9}, 1},
		{api.Epoch{At: 6, Pins: 4, Cores: 64}, []uint64{9, 9, 9, 9, 0, 0}, 67},
		{api.Epoch{At: 1, Pins: math.MaxInt, Cores: 2}, []uint64{9, 0, 9, 9, 9, 9}, math.MinInt},
	} {
		m := mem(t, 9, 9, 9, 9, 9, 9)
		epoch.Fill(c.e, m)
		checkWords(t, m, c.want...)
		last := m.Last()
		if got, want := m.Count()-6, 1+c.e.Cores; got != want || last.Kind != api.AccessStore || last.At != c.last {
			t.Errorf("%+v: %d accesses, want %d, the last one %+v", c.e, got, want, last)
		}
	}
	for _, cores := range []int{math.MinInt, -1, 0, 65, 4096, math.MaxInt} {
		m, e := mem(t, 9, 9, 9, 9), small
		e.Cores = cores
		epoch.Fill(e, m)
		checkWords(t, m, 9, 9, 9, 9)
		if m.Count() != 4 {
			t.Errorf("%d cores: an access", cores)
		}
	}
	epoch.Fill(small, nil)
	epoch.Fill(small, &cells.Mem{})
}

// P12.1: the epoch and the pins are told modulo 2^32; cells that are not there hold 0.
func TestTold(t *testing.T) {
	m := mem(t, 7, 0, 1, 2, math.MaxUint32, 1<<32, 1<<32+1, 1<<63, math.MaxUint64, 1<<40+5)
	e := api.Epoch{At: 0, Pins: 1, Cores: 9}
	checkTold(t, e, m, 7, -1, 0, 1, math.MaxUint32-1, math.MaxUint32, 0, math.MaxUint32, math.MaxUint32-1, 4)
	for at, now := range map[int]int{
		-1: 0, 1: 0, 4: math.MaxUint32, 5: 0, 6: 1, 7: 0, 8: math.MaxUint32, 9: 5, 10: 0, math.MinInt: 0, math.MaxInt: 0,
	} {
		checkTold(t, api.Epoch{At: at, Pins: 2, Cores: 1}, m, now, 0)
	}
	checkTold(t, api.Epoch{At: 3, Pins: 8, Cores: 4}, m, 2, math.MaxUint32-1, 4, -1, -1)
	checkTold(t, api.Epoch{At: 3, Pins: -1, Cores: 3}, m, 2, -1, 6, -1)
	checkTold(t, api.Epoch{At: 3, Pins: math.MaxInt, Cores: 2}, m, 2, -1, -1)
	for _, cores := range []int{math.MinInt, -1, 0, 65, math.MaxInt} {
		checkTold(t, api.Epoch{At: 0, Pins: 1, Cores: cores}, m, 7)
	}
	most := make([]int, 64)
	for c := range most {
		most[c] = -1
	}
	most[0] = 4
	checkTold(t, api.Epoch{At: 2, Pins: 9, Cores: 64}, m, 1, most...)
	for _, m := range []*cells.Mem{nil, {}} {
		checkTold(t, small, m, 0, -1, -1, -1)
	}
}

// P12.1: what was told is the caller's.
func TestNewMemory(t *testing.T) {
	m := mem(t, 4, 5, 0, 5)
	l := epoch.Pinned(small, m)
	clear(l)
	checkTold(t, small, m, 4, 4, -1, 4)
	checkWords(t, m, 4, 5, 0, 5)
}

// P12.2, P12.3: what a pin stores is a word that is not 0, also at the last epoch; it is pinned when the epoch is the same, whatever the word.
func TestPin(t *testing.T) {
	for _, c := range []struct {
		word, again, pin uint64
		at               int
	}{
		{0, 0, 1, 0},
		{6, 6, 7, 6},
		{6, 1<<32 + 6, 7, 6},
		{1<<63 + 6, 1<<40 + 6, 7, 6},
		{math.MaxUint32, math.MaxUint32, 1 << 32, math.MaxUint32},
		{math.MaxUint64, math.MaxUint32, 1 << 32, math.MaxUint32},
		{1 << 32, 0, 1, 0},
	} {
		m := mem(t, c.word, 3, 3, 3)
		x := epoch.NewPin(small, 2)
		checkStep(t, x, m, load(0, c.word), false)
		checkStep(t, x, m, store(3, 3, c.pin), false)
		m.Store(0, c.again)
		checkStep(t, x, m, load(0, c.again), true)
		checkOutcome(t, x, c.at, api.OK)
		checkEnded(t, x, m)
		checkWords(t, m, c.again, 3, 3, c.pin)
	}
}

// P12.2: a pin stores again for as long as the epoch is another one than it stored, also when an earlier one has come back.
func TestPinAgain(t *testing.T) {
	m := mem(t, 0, 0, 0, 0)
	x := epoch.NewPin(small, 0)
	checkStep(t, x, m, load(0, 0), false)
	was := uint64(0)
	for _, w := range []uint64{5, 4, math.MaxUint64, 0, 1 << 32 * 9, 7} {
		old := m.Words()[1]
		checkStep(t, x, m, store(1, old, was+1), false)
		m.Store(0, w)
		same := w<<32 == was<<32
		checkStep(t, x, m, load(0, w), same)
		if same {
			checkOutcome(t, x, int(was), api.OK)
			x = epoch.NewPin(small, 0)
			checkStep(t, x, m, load(0, w), false)
		}
		was = w & math.MaxUint32
	}
	m.Store(1, 90)
	m.Store(0, 8)
	checkStep(t, x, m, store(1, 90, 8), false)
	checkStep(t, x, m, load(0, 8), false)
	checkStep(t, x, m, store(1, 8, 9), false)
	checkStep(t, x, m, load(0, 8), true)
	m.Store(0, 9)
	m.Store(1, 0)
	checkOutcome(t, x, 8, api.OK)
}

// P12.2: an unpin is one store, whatever the pin was.
func TestUnpin(t *testing.T) {
	for _, pin := range []uint64{0, 1, 7, 1 << 32, math.MaxUint64} {
		for c := range 3 {
			m := mem(t, 7, pin, pin, pin)
			want := m.Words()
			want[1+c] = 0
			x := epoch.NewUnpin(small, c)
			checkSteps(t, x, m, store(1+c, pin, 0))
			checkOutcome(t, x, 0, api.OK)
			checkWords(t, m, want...)
		}
	}
}

// P12.2: an advance is refused at once unless the current epoch is its own one, which may be no epoch at all.
func TestAdvanceOwn(t *testing.T) {
	for _, c := range []struct {
		word uint64
		own  int
		is   bool
	}{
		{0, 0, true}, {0, 1, false}, {1, 0, false}, {5, 5, true}, {5, 4, false}, {5, 6, false},
		{5, 5 + 1<<32, false}, {5 + 1<<32, 5, true}, {5 + 1<<32, 5 + 1<<32, false},
		{0, 1 << 32, false}, {1 << 32, 1 << 32, false}, {1 << 63, 0, true}, {1 << 63, math.MinInt, false},
		{math.MaxUint32, math.MaxUint32, true}, {math.MaxUint32, -1, false}, {math.MaxUint64, -1, false}, {math.MaxUint64, math.MaxUint32, true},
		{math.MaxInt, math.MaxInt, false}, {0, math.MinInt, false}, {math.MaxUint64 - 3, math.MaxUint32 - 3, true},
	} {
		m := mem(t, c.word, 0, 0, 0)
		x := epoch.NewAdvance(small, 0, c.own)
		if !c.is {
			checkSteps(t, x, m, load(0, c.word))
			checkOutcome(t, x, 0, api.ErrBusy)
			checkWords(t, m, c.word, 0, 0, 0)
			continue
		}
		next := uint64(c.own) + 1
		checkSteps(t, x, m, load(0, c.word), load(2, 0), load(3, 0), swap(0, c.word, next))
		checkOutcome(t, x, 0, api.OK)
		checkWords(t, m, next, 0, 0, 0)
	}
}

// P12.2: an advance looks at the pins of all others, ascending, and is refused by the first one that is pinned elsewhere. Its own one does not matter.
func TestAdvanceOthers(t *testing.T) {
	for own := range 3 {
		for _, pins := range [][]uint64{
			{0, 0, 0}, {8, 8, 8}, {0, 8, 0}, {7, 0, 0}, {0, 7, 0}, {0, 0, 7}, {9, 8, 0}, {8, 9, 8}, {8, 0, 9}, {1, 1, 1},
			{1<<32 + 8, 8, 8}, {8, 1 << 32, 8}, {8, 8, 1<<63 + 8}, {math.MaxUint64, 0, 0}, {8, 8, math.MaxUint64},
		} {
			m := mem(t, 7, pins[0], pins[1], pins[2])
			want, err := []api.Access{load(0, 7)}, api.OK
			for c, pin := range pins {
				if c == own || err != api.OK {
					continue
				}
				want = append(want, load(1+c, pin))
				if pin != 0 && pin != 8 {
					err = api.ErrBusy
				}
			}
			if err == api.OK {
				want = append(want, swap(0, 7, 8))
			}
			x := epoch.NewAdvance(small, own, 7)
			checkSteps(t, x, m, want...)
			checkOutcome(t, x, 0, err)
		}
	}
	m := mem(t, math.MaxUint32, 1<<32, 5, 1<<32)
	checkSteps(t, epoch.NewAdvance(small, 1, math.MaxUint32), m, load(0, math.MaxUint32), load(1, 1<<32), load(3, 1<<32), swap(0, math.MaxUint32, 1<<32))
	checkTold(t, small, m, 0, math.MaxUint32, 4, math.MaxUint32)
}

// P12.2: an advance fails at its swap if the word is another one than it has loaded, even one of the same epoch; it does not load it again.
func TestAdvanceLate(t *testing.T) {
	for _, c := range []struct {
		word, then uint64
		held       bool
	}{
		{3, 3, true}, {3, 4, false}, {3, 1<<32 + 3, false}, {1<<32 + 3, 3, false}, {1<<32 + 3, 1<<32 + 3, true}, {math.MaxUint64, math.MaxUint32, false},
	} {
		m := mem(t, c.word, 0, 0, 0)
		own := int(uint32(c.word))
		x := epoch.NewAdvance(small, 2, own)
		checkStep(t, x, m, load(0, c.word), false)
		m.Store(0, 70)
		checkStep(t, x, m, load(1, 0), false)
		m.Store(1, 99)
		m.Store(2, uint64(own)+1)
		m.Store(0, c.then)
		checkStep(t, x, m, load(2, uint64(own)+1), false)
		m.Store(2, 99)
		if c.held {
			checkStep(t, x, m, swap(0, c.then, uint64(own)+1), true)
			checkOutcome(t, x, 0, api.OK)
			continue
		}
		checkStep(t, x, m, missed(0, c.then), true)
		checkOutcome(t, x, 0, api.ErrBusy)
		checkEnded(t, x, m)
	}
}

// P12.2: an epoch of one core, in which there are no others, and one of the greatest number of them.
func TestCores(t *testing.T) {
	one := api.Epoch{At: 1, Pins: 0, Cores: 1}
	m := mem(t, 0, 0)
	checkSteps(t, epoch.NewPin(one, 0), m, load(1, 0), store(0, 0, 1), load(1, 0))
	checkSteps(t, epoch.NewAdvance(one, 0, 0), m, load(1, 0), swap(1, 0, 1))
	checkSteps(t, epoch.NewAdvance(one, 0, 1), m, load(1, 1), swap(1, 1, 2))
	checkSteps(t, epoch.NewUnpin(one, 0), m, store(0, 1, 0))
	checkTold(t, one, m, 2, -1)

	most := api.Epoch{At: 64, Pins: 0, Cores: 64}
	m = mem(t, make([]uint64, 65)...)
	for _, c := range []int{0, 31, 63} {
		checkSteps(t, epoch.NewPin(most, c), m, load(64, 0), store(c, 0, 1), load(64, 0))
	}
	want := []api.Access{load(64, 0)}
	for c := range 64 {
		if c != 31 {
			want = append(want, load(c, m.Words()[c]))
		}
	}
	checkSteps(t, epoch.NewAdvance(most, 31, 0), m, append(want, swap(64, 0, 1))...)
	checkSteps(t, epoch.NewUnpin(most, 0), m, store(0, 1, 0))
	checkSteps(t, epoch.NewUnpin(most, 31), m, store(31, 1, 0))
	checkSteps(t, epoch.NewPin(most, 31), m, load(64, 1), store(31, 0, 2), load(64, 1))
	want[0] = load(64, 1)
	want[1] = load(0, 0)
	advance := epoch.NewAdvance(most, 31, 1)
	checkSteps(t, advance, m, want...)
	checkOutcome(t, advance, 0, api.ErrBusy)
}

// P12.2, P12.3: operations of a core that there is not have ended at once.
func TestNoCore(t *testing.T) {
	for _, c := range []struct {
		cores int
		no    []int
		has   []int
	}{
		{3, []int{math.MinInt, -1, 3, 4, 1 << 32, math.MaxInt}, []int{0, 1, 2}},
		{1, []int{-1, 1}, []int{0}},
		{64, []int{-1, 64}, []int{0, 63}},
		{0, []int{-1, 0, 1}, nil},
		{-1, []int{-2, -1, 0}, nil},
		{math.MinInt, []int{math.MinInt, -1, 0}, nil},
	} {
		m, e := mem(t, 0, 0, 0, 0), small
		e.Cores = c.cores
		count := m.Count()
		for _, at := range c.no {
			for _, x := range []operation{epoch.NewPin(e, at), epoch.NewUnpin(e, at), epoch.NewAdvance(e, at, 0)} {
				checkOutcome(t, x, 0, api.ErrRange)
				checkEnded(t, x, m)
			}
		}
		if m.Count() != count {
			t.Error("of no core no access")
		}
		for _, at := range c.has {
			for _, x := range []operation{epoch.NewPin(e, at), epoch.NewUnpin(e, at), epoch.NewAdvance(e, at, 0), epoch.NewAdvance(e, at, -1)} {
				checkOutcome(t, x, 0, api.ErrBusy)
			}
		}
	}
}

// P12.2: an epoch that is not valid has its cores nevertheless: as many as it says.
func TestTooMany(t *testing.T) {
	e := api.Epoch{At: 0, Pins: 1, Cores: 66}
	m := mem(t, 0, 0, 0)
	checkSteps(t, epoch.NewPin(e, 65), m, load(0, 0), api.Access{Kind: api.AccessStore, At: 66}, load(0, 0))
	x := epoch.NewAdvance(e, 65, 0)
	want := []api.Access{load(0, 0)}
	for c := range 65 {
		want = append(want, load(1+c, 0))
	}
	checkSteps(t, x, m, append(want, swap(0, 0, 1))...)
	e.Cores, e.Pins = math.MaxInt, math.MaxInt-1
	last := epoch.NewAdvance(e, 0, 1)
	checkStep(t, last, m, load(0, 1), false)
	checkStep(t, last, m, load(math.MaxInt, 0), false)
	checkStep(t, last, m, load(math.MinInt, 0), false)
	checkSteps(t, epoch.NewUnpin(e, math.MaxInt-1), m, api.Access{Kind: api.AccessStore, At: -4})
}

// P12.2, P12.3: operations that no function made.
func TestInvalid(t *testing.T) {
	m := mem(t, 0, 0, 0, 0)
	count := m.Count()
	for _, x := range []operation{
		(*epoch.Pin)(nil), &epoch.Pin{}, (*epoch.Unpin)(nil), &epoch.Unpin{}, (*epoch.Advance)(nil), &epoch.Advance{},
	} {
		checkOutcome(t, x, 0, api.ErrNil)
		checkEnded(t, x, m)
	}
	if m.Count() != count {
		t.Error("of none an access")
	}
}

// P12.2: without a memory, what is loaded is 0, and no swap succeeds.
func TestNoMemory(t *testing.T) {
	for _, m := range []*cells.Mem{nil, {}} {
		for _, c := range []struct {
			x     operation
			steps int
			want  api.Errno
		}{
			{epoch.NewPin(small, 1), 3, api.OK},
			{epoch.NewUnpin(small, 1), 1, api.OK},
			{epoch.NewAdvance(small, 1, 0), 4, api.ErrBusy},
			{epoch.NewAdvance(small, 1, 1), 1, api.ErrBusy},
		} {
			for n := 1; n <= c.steps; n++ {
				checkOutcome(t, c.x, 0, api.ErrBusy)
				if c.x.Step(m) != (n == c.steps) {
					t.Errorf("%T: step %d of %d", c.x, n, c.steps)
				}
			}
			checkOutcome(t, c.x, 0, c.want)
		}
	}
}

// P12.2: an operation that is stepped in another memory continues there.
func TestOtherMemory(t *testing.T) {
	m, other := mem(t, 4, 0, 0, 0), mem(t, 5, 6, 5, 0)
	pin := epoch.NewPin(small, 0)
	checkStep(t, pin, m, load(0, 4), false)
	checkStep(t, pin, other, store(1, 6, 5), false)
	checkStep(t, pin, m, load(0, 4), true)
	checkOutcome(t, pin, 4, api.OK)

	advance := epoch.NewAdvance(small, 0, 4)
	checkStep(t, advance, m, load(0, 4), false)
	checkStep(t, advance, other, load(2, 5), false)
	checkStep(t, advance, mem(t, 4), load(3, 0), false)
	checkStep(t, advance, other, missed(0, 5), true)
	checkOutcome(t, advance, 0, api.ErrBusy)
	checkWords(t, m, 4, 0, 0, 0)
	checkWords(t, other, 5, 5, 5, 0)
}
