package arena_test

import (
	"math"
	"slices"
	"testing"

	"coxswain/api"
	"coxswain/arena"
	"coxswain/cells"
	"coxswain/stack"
)

// small is the arena of the chapter's examples.
var small = api.Arena{Free: api.Stack{Top: 0, Links: 1, Size: 3}, Gens: 4, Worn: 7, Limit: 2}

func mem(t *testing.T, words ...uint64) *cells.Mem {
	t.Helper()
	m, err := cells.New(len(words))
	if err != api.OK {
		t.Fatal("memory:", err)
	}
	for at, w := range words {
		m.Store(at, w)
	}
	return m
}

// filled is a memory of the small arena, with all of its nodes free.
func filled(t *testing.T) *cells.Mem {
	t.Helper()
	m := mem(t, make([]uint64, 12)...)
	arena.Fill(small, m)
	checkWords(t, m, 1, 2, 3, 0, 1, 1, 1, 0, 0, 0, 0, 0)
	return m
}

func checkWords(t *testing.T, m *cells.Mem, want ...uint64) {
	t.Helper()
	if got := m.Words(); !slices.Equal(got, want) {
		t.Errorf("words: %x, want %x", got, want)
	}
}

// operation is what both kinds have in common.
type operation interface{ Step(*cells.Mem) bool }

// outcome is what an operation came to; a free has no ref.
func outcome(x operation) (uint64, api.Errno) {
	switch x := x.(type) {
	case *arena.Alloc:
		return x.Ref()
	case *arena.Free:
		return 0, x.Err()
	}
	return 0, -1
}

func checkOutcome(t *testing.T, x operation, ref uint64, err api.Errno) {
	t.Helper()
	if r, e := outcome(x); r != ref || e != err {
		t.Errorf("outcome: %x %v, want %x %v", r, e, ref, err)
	}
}

func load(at int, w uint64) api.Access {
	return api.Access{Kind: api.AccessLoad, At: at, Old: w, New: w}
}

func store(at int, old, new uint64) api.Access {
	return api.Access{Kind: api.AccessStore, At: at, Old: old, New: new, Held: true}
}

func swap(at int, old, new uint64) api.Access {
	return api.Access{Kind: api.AccessCAS, At: at, Old: old, New: new, Held: true}
}

func missed(at int, w uint64) api.Access {
	return api.Access{Kind: api.AccessCAS, At: at, Old: w, New: w}
}

func add(at int, old, new uint64) api.Access {
	return api.Access{Kind: api.AccessAdd, At: at, Old: old, New: new, Held: true}
}

// checkStep makes a step, which is to be one access, and says whether it is to be the last one.
func checkStep(t *testing.T, x operation, m *cells.Mem, want api.Access, end bool) {
	t.Helper()
	checkOutcome(t, x, 0, api.ErrBusy)
	count := m.Count()
	if got := x.Step(m); got != end {
		t.Errorf("step: %v, want %v", got, end)
	}
	if m.Count() != count+1 || m.Last() != want {
		t.Errorf("%d accesses, the last one %+v, want one, %+v", m.Count()-count, m.Last(), want)
	}
}

// checkSteps makes all steps of an operation, the last of which ends it.
func checkSteps(t *testing.T, x operation, m *cells.Mem, want ...api.Access) {
	t.Helper()
	for i, a := range want {
		checkStep(t, x, m, a, i == len(want)-1)
	}
	checkEnded(t, x, m)
}

// checkEnded sees to it that steps behind the end make no access and change no outcome.
func checkEnded(t *testing.T, x operation, m *cells.Mem) {
	t.Helper()
	ref, err := outcome(x)
	last, count := m.Last(), m.Count()
	for range 3 {
		if !x.Step(m) || !x.Step(nil) {
			t.Error("it has ended")
		}
		checkOutcome(t, x, ref, err)
	}
	if m.Last() != last || m.Count() != count {
		t.Error("an access behind the end")
	}
}

// The chapter's examples.
func TestExample(t *testing.T) {
	m := filled(t)
	alloc := arena.NewAlloc(small)
	checkSteps(t, alloc, m, load(0, 1), load(1, 2), swap(0, 1, 0x10002), load(4, 1))
	checkOutcome(t, alloc, 0x10001, api.OK)
	checkOutcome(t, arena.NewAlloc(small), 0, api.ErrBusy)

	alloc = arena.NewAlloc(small)
	checkSteps(t, alloc, m, load(0, 0x10002), load(2, 3), swap(0, 0x10002, 0x20003), load(5, 1))
	checkOutcome(t, alloc, 0x10002, api.OK)
	alloc = arena.NewAlloc(small)
	checkSteps(t, alloc, m, load(0, 0x20003), load(3, 0), swap(0, 0x20003, 0x30000), load(6, 1))
	checkOutcome(t, alloc, 0x10003, api.OK)
	alloc = arena.NewAlloc(small)
	checkSteps(t, alloc, m, load(0, 0x30000), load(7, 0))
	checkOutcome(t, alloc, 0, api.ErrFull)

	free := arena.NewFree(small, 0)
	checkSteps(t, free, m, load(4, 1), store(4, 1, 2), load(0, 0x30000), store(1, 2, 0), swap(0, 0x30000, 0x40001))
	checkOutcome(t, free, 0, api.OK)
	alloc = arena.NewAlloc(small)
	checkSteps(t, alloc, m, load(0, 0x40001), load(1, 0), swap(0, 0x40001, 0x50000), load(4, 2))
	checkOutcome(t, alloc, 0x20001, api.OK)
	free = arena.NewFree(small, 0)
	checkSteps(t, free, m, load(4, 2), add(7, 0, 1))
	checkOutcome(t, free, 0, api.OK)
	checkWords(t, m, 0x50000, 0, 3, 0, 2, 1, 1, 1, 0, 0, 0, 0)

	free = arena.NewFree(small, 3)
	checkOutcome(t, free, 0, api.ErrRange)
	checkEnded(t, free, m)
	zero, high := small, small
	zero.Limit, high.Worn = 0, 5
	for _, c := range []struct {
		a     api.Arena
		cells int
		want  api.Errno
	}{{small, 11, api.OK}, {zero, 12, api.ErrArg}, {high, 12, api.ErrArg}} {
		if got := arena.Fits(c.a, c.cells); got != c.want {
			t.Errorf("%+v in %d cells: %v, want %v", c.a, c.cells, got, c.want)
		}
	}
}

// P11.1: which arenas fit, in words of the term: cells that are there, none of them twice.
func TestFits(t *testing.T) {
	for _, n := range []int{-1, 0, 1, 4, 6, 8, 9} {
		for size := -1; size <= 3; size++ {
			for top := -1; top <= 8; top++ {
				for links := -1; links <= 8; links++ {
					for gens := -1; gens <= 8; gens++ {
						for worn := -1; worn <= 8; worn++ {
							checkFits(t, api.Arena{Free: api.Stack{Top: top, Links: links, Size: size}, Gens: gens, Worn: worn, Limit: 1}, n)
						}
					}
				}
			}
		}
	}
}

// P11.1: numbers so great that sums of them wrap round, and memories of all sizes.
func TestFitsFar(t *testing.T) {
	far := []int{math.MinInt, math.MinInt + 1, -1, 0, 1, 2047, 2048, 4094, 4095, 4096, 1 << 32, math.MaxInt - 4095, math.MaxInt}
	for _, n := range []int{math.MinInt, -1, 0, 1, 4095, 4096, 4097, math.MaxInt} {
		for _, gens := range far {
			for _, worn := range far {
				for _, size := range far {
					checkFits(t, api.Arena{Free: api.Stack{Top: 0, Links: 1, Size: size}, Gens: gens, Worn: worn, Limit: 7}, n)
					checkFits(t, api.Arena{Free: api.Stack{Top: 4095, Links: 2049, Size: size}, Gens: gens, Worn: worn, Limit: 7}, n)
				}
			}
		}
	}
}

// P11.1: limits from 1 to the greatest generation.
func TestFitsLimit(t *testing.T) {
	for _, limit := range []int{math.MinInt, -1, 0, 1, 2, 1 << 31, math.MaxUint32 - 1, math.MaxUint32, 1 << 32, 1<<32 + 1, math.MaxInt} {
		a := small
		a.Limit = limit
		for _, n := range []int{-1, 0, 7, 8, 12, 4096, 4097} {
			checkFits(t, a, n)
		}
	}
}

// P11.1: the greatest arena that there is.
func TestGreatest(t *testing.T) {
	a := api.Arena{Free: api.Stack{Top: 4094, Links: 0, Size: 2047}, Gens: 2047, Worn: 4095, Limit: 1}
	checkFits(t, a, 4096)
	checkFits(t, a, 4095)
	m := mem(t, make([]uint64, 4096)...)
	arena.Fill(a, m)
	for i := range 2047 {
		alloc := arena.NewAlloc(a)
		for !alloc.Step(m) {
		}
		checkOutcome(t, alloc, 1<<16|uint64(i+1), api.OK)
	}
	a.Free.Size++
	checkFits(t, a, 4096)
}

func checkFits(t *testing.T, a api.Arena, n int) {
	t.Helper()
	if got, want := arena.Fits(a, n), fits(a, n); got != want {
		t.Fatalf("%+v in %d cells: %v, want %v", a, n, got, want)
	}
}

func fits(a api.Arena, n int) api.Errno {
	if n < 1 || n > 4096 {
		return api.ErrRange
	}
	if stack.Fits(a.Free, n) != api.OK || a.Limit < 1 || a.Limit >= 1<<32 {
		return api.ErrArg
	}
	var has [4096]bool
	has[a.Free.Top] = true
	for i := range a.Free.Size {
		has[a.Free.Links+i] = true
	}
	for i := range a.Free.Size + 1 {
		at := a.Gens + i
		if i == a.Free.Size {
			at = a.Worn
		}
		if at < 0 || at >= n || has[at] {
			return api.ErrArg
		}
		has[at] = true
	}
	return api.OK
}

// P11.1: what Fill stores, where, and in which order: what is stored last holds in a cell that has two meanings.
func TestFill(t *testing.T) {
	for _, c := range []struct {
		a    api.Arena
		want []uint64
	}{
		{api.Arena{Free: api.Stack{Top: 7, Links: 5, Size: 2}, Gens: 1, Worn: 4, Limit: 9}, []uint64{99, 1, 1, 99, 0, 2, 0, 1}},
		{api.Arena{Free: api.Stack{Top: 3, Links: 2, Size: 1}, Gens: 1, Worn: 0}, []uint64{0, 1, 0, 1, 99, 99, 99, 99}},
		{api.Arena{Free: api.Stack{Top: 0, Links: 1, Size: 3}, Gens: 2, Worn: 1}, []uint64{1, 0, 1, 1, 1, 99, 99, 99}},
		{api.Arena{Free: api.Stack{Top: 0, Links: 1, Size: 3}, Gens: 4, Worn: 5}, []uint64{1, 2, 3, 0, 1, 1, 1, 99}},
		{api.Arena{Free: api.Stack{Top: 0, Links: 1, Size: 2}, Gens: 6, Worn: 0}, []uint64{0, 2, 0, 99, 99, 99, 1, 1}},
		{api.Arena{Free: api.Stack{Top: -1, Links: 8, Size: 3}, Gens: -2, Worn: 8}, []uint64{1, 99, 99, 99, 99, 99, 99, 99}},
		{api.Arena{Free: api.Stack{Top: 9, Links: 5, Size: 4}, Gens: math.MaxInt - 1, Worn: 1}, []uint64{99, 0, 99, 99, 99, 2, 3, 4}},
	} {
		m := mem(t, 99, 99, 99, 99, 99, 99, 99, 99)
		arena.Fill(c.a, m)
		checkWords(t, m, c.want...)
		if got, want := m.Count()-8, 2+2*c.a.Free.Size; got != want {
			t.Errorf("%+v: %d accesses, want %d", c.a, got, want)
		}
	}
	for _, size := range []int{math.MinInt, -1, 0, 4097, 65535, math.MaxInt} {
		m, a := mem(t, 99, 99, 99, 99), small
		a.Free.Size = size
		arena.Fill(a, m)
		checkWords(t, m, 99, 99, 99, 99)
		if m.Count() != 4 {
			t.Errorf("size %d: an access", size)
		}
	}
	m := mem(t, make([]uint64, 4096)...)
	arena.Fill(api.Arena{Free: api.Stack{Top: 4095, Links: 4096, Size: 4096}, Gens: 0, Worn: 4096, Limit: 1}, m)
	if words := m.Words(); words[4094] != 1 || words[4095] != 1 {
		t.Error("a fill of the greatest size goes to its end")
	}
	arena.Fill(small, nil)
	arena.Fill(small, &cells.Mem{})
}

// P11.2, P11.3: an alloc that finds no node tells whether all are worn; the count is a word, and no number with a sign.
func TestRefused(t *testing.T) {
	for _, c := range []struct {
		size int
		worn uint64
		want api.Errno
	}{
		{3, 0, api.ErrFull},
		{3, 2, api.ErrFull},
		{3, 3, api.ErrWorn},
		{3, 4, api.ErrWorn},
		{3, 1 << 32, api.ErrWorn},
		{3, 1 << 63, api.ErrWorn},
		{3, math.MaxUint64, api.ErrWorn},
		{1, 0, api.ErrFull},
		{1, 1, api.ErrWorn},
		{0, 0, api.ErrWorn},
		{-1, 0, api.ErrWorn},
		{math.MinInt, math.MaxUint64, api.ErrWorn},
		{math.MaxInt, math.MaxInt - 1, api.ErrFull},
		{math.MaxInt, math.MaxInt, api.ErrWorn},
	} {
		m, a := filled(t), small
		a.Free.Size = c.size
		m.Store(0, 0xabc0000)
		m.Store(7, c.worn)
		x := arena.NewAlloc(a)
		checkSteps(t, x, m, load(0, 0xabc0000), load(7, c.worn))
		checkOutcome(t, x, 0, c.want)
	}
}

// P11.2: when there is nothing on top because the top is no place of the arena, there is no node either.
func TestTopNoPlace(t *testing.T) {
	m := filled(t)
	m.Store(0, 4)
	x := arena.NewAlloc(small)
	checkSteps(t, x, m, load(0, 4), load(7, 0))
	checkOutcome(t, x, 0, api.ErrFull)
}

// P11.2, P11.3: the generation in a ref is that of the cell, modulo 2^32; there is no mark.
func TestGenerations(t *testing.T) {
	for _, c := range []struct{ gen, want uint64 }{
		{0, 2}, {1, 0x1_0002}, {2, 0x2_0002},
		{math.MaxUint32, 0xffff_ffff_0002},
		{1 << 32, 2},
		{1<<32 + 5, 0x5_0002},
		{1<<40 | 7, 0x7_0002},
		{1 << 63, 2},
		{math.MaxUint64, 0xffff_ffff_0002},
	} {
		m := filled(t)
		m.Store(0, 2)
		m.Store(5, c.gen)
		x := arena.NewAlloc(small)
		checkSteps(t, x, m, load(0, 2), load(2, 3), swap(0, 2, 0x10003), load(5, c.gen))
		checkOutcome(t, x, c.want, api.OK)
	}
}

// P11.2: an alloc whose pop comes late begins that anew, and loads no generation before it has an index.
func TestLate(t *testing.T) {
	m := filled(t)
	late := arena.NewAlloc(small)
	checkStep(t, late, m, load(0, 1), false)
	checkStep(t, late, m, load(1, 2), false)
	first := arena.NewAlloc(small)
	checkSteps(t, first, m, load(0, 1), load(1, 2), swap(0, 1, 0x10002), load(4, 1))
	checkStep(t, late, m, missed(0, 0x10002), false)
	checkStep(t, late, m, load(0, 0x10002), false)
	checkStep(t, late, m, load(2, 3), false)
	free := arena.NewFree(small, 0)
	checkSteps(t, free, m, load(4, 1), store(4, 1, 2), load(0, 0x10002), store(1, 2, 2), swap(0, 0x10002, 0x20001))
	checkStep(t, late, m, missed(0, 0x20001), false)
	checkStep(t, late, m, load(0, 0x20001), false)
	checkStep(t, late, m, load(1, 2), false)
	checkStep(t, late, m, swap(0, 0x20001, 0x30002), false)
	checkStep(t, late, m, load(4, 2), true)
	checkOutcome(t, late, 0x20001, api.OK)
	checkOutcome(t, first, 0x10001, api.OK)
}

// P11.2: a free whose push comes late begins that anew, and stores no second generation.
func TestLateFree(t *testing.T) {
	m := filled(t)
	m.Store(0, 2)
	late := arena.NewFree(small, 0)
	checkStep(t, late, m, load(4, 1), false)
	checkStep(t, late, m, store(4, 1, 2), false)
	checkStep(t, late, m, load(0, 2), false)
	checkStep(t, late, m, store(1, 2, 2), false)
	other := arena.NewAlloc(small)
	checkSteps(t, other, m, load(0, 2), load(2, 3), swap(0, 2, 0x10003), load(5, 1))
	checkStep(t, late, m, missed(0, 0x10003), false)
	checkStep(t, late, m, load(0, 0x10003), false)
	checkStep(t, late, m, store(1, 2, 3), false)
	checkStep(t, late, m, swap(0, 0x10003, 0x20001), true)
	checkOutcome(t, late, 0, api.OK)
	checkEnded(t, late, m)
	checkWords(t, m, 0x20001, 3, 3, 0, 2, 1, 1, 0, 0, 0, 0, 0)
}

// P11.2: which generations are worn: those that are not less than the limit, modulo 2^32. What is stored for the others is the whole word and 1.
func TestWear(t *testing.T) {
	for _, c := range []struct {
		limit int
		gen   uint64
		worn  bool
	}{
		{1, 0, false}, {1, 1, true}, {1, 2, true},
		{2, 1, false}, {2, 2, true}, {2, 3, true},
		{7, 6, false}, {7, 7, true}, {7, 1 << 40, false}, {7, 1<<40 | 6, false}, {7, 1<<40 | 7, true}, {7, 1<<63 | 6, false},
		{math.MaxUint32, math.MaxUint32 - 1, false},
		{math.MaxUint32, math.MaxUint32, true},
		{math.MaxUint32, math.MaxUint64 - 1, false},
		{math.MaxUint32, math.MaxUint64, true},
		{1, math.MaxUint64, true}, {0, 0, true}, {-1, 0, true}, {math.MinInt, 0, true},
		{1 << 32, math.MaxUint32, false}, {1 << 32, math.MaxUint64, false}, {math.MaxInt, math.MaxUint32, false},
	} {
		m, a := filled(t), small
		a.Limit = c.limit
		m.Store(0, 3)
		m.Store(5, c.gen)
		m.Store(7, 41)
		x := arena.NewFree(a, 1)
		if c.worn {
			checkSteps(t, x, m, load(5, c.gen), add(7, 41, 42))
			checkOutcome(t, x, 0, api.OK)
			checkWords(t, m, 3, 2, 3, 0, 1, c.gen, 1, 42, 0, 0, 0, 0)
			continue
		}
		checkSteps(t, x, m, load(5, c.gen), store(5, c.gen, c.gen+1), load(0, 3), store(2, 3, 3), swap(0, 3, 0x10002))
		checkOutcome(t, x, 0, api.OK)
		checkWords(t, m, 0x10002, 2, 3, 0, 1, c.gen+1, 1, 41, 0, 0, 0, 0)
	}
	m := filled(t)
	m.Store(4, 2)
	m.Store(7, math.MaxUint64)
	checkSteps(t, arena.NewFree(small, 0), m, load(4, 2), add(7, math.MaxUint64, 0))
}

// P11.2: what a free does is settled by the generation that it has loaded; it is not loaded again.
func TestLoadedOnce(t *testing.T) {
	m := filled(t)
	m.Store(0, 0)
	x := arena.NewFree(small, 2)
	checkStep(t, x, m, load(6, 1), false)
	m.Store(6, 70)
	checkStep(t, x, m, store(6, 70, 2), false)
	m.Store(6, 80)
	checkStep(t, x, m, load(0, 0), false)
	checkStep(t, x, m, store(3, 0, 0), false)
	checkStep(t, x, m, swap(0, 0, 0x10003), true)

	y := arena.NewFree(small, 2)
	checkStep(t, y, m, load(6, 80), false)
	m.Store(6, 1)
	checkStep(t, y, m, add(7, 0, 1), true)

	z := arena.NewAlloc(small)
	checkStep(t, z, m, load(0, 0x10003), false)
	checkStep(t, z, m, load(3, 0), false)
	checkStep(t, z, m, swap(0, 0x10003, 0x20000), false)
	m.Store(6, 9)
	checkStep(t, z, m, load(6, 9), true)
	m.Store(6, 10)
	checkOutcome(t, z, 0x9_0003, api.OK)
}

// P11.2, P11.3: a free of what is no index of the arena has ended at once.
func TestNoIndex(t *testing.T) {
	m := filled(t)
	count := m.Count()
	for _, i := range []int{math.MinInt, -1, 3, 4, 65535, 1 << 32, math.MaxInt} {
		x := arena.NewFree(small, i)
		checkOutcome(t, x, 0, api.ErrRange)
		checkEnded(t, x, m)
	}
	for _, size := range []int{math.MinInt, -1, 0} {
		a := small
		a.Free.Size = size
		x := arena.NewFree(a, 0)
		checkOutcome(t, x, 0, api.ErrRange)
		checkEnded(t, x, m)
	}
	if m.Count() != count {
		t.Error("of no node no access")
	}
	for i := range 3 {
		checkOutcome(t, arena.NewFree(small, i), 0, api.ErrBusy)
	}
	great := small
	great.Free.Size = math.MaxInt
	checkOutcome(t, arena.NewFree(great, api.MaxIndex), 0, api.ErrBusy)
	checkOutcome(t, arena.NewFree(great, api.MaxIndex+1), 0, api.ErrRange)
}

// P11.2, P11.3: operations that no function made, also where somebody laid one of a stack into them.
func TestInvalid(t *testing.T) {
	m := filled(t)
	count := m.Count()
	for _, x := range []operation{
		(*arena.Alloc)(nil), &arena.Alloc{}, &arena.Alloc{Pop: *stack.NewPop(small.Free)},
		(*arena.Free)(nil), &arena.Free{}, &arena.Free{Push: *stack.NewPush(small.Free, 0)},
	} {
		checkOutcome(t, x, 0, api.ErrNil)
		checkEnded(t, x, m)
	}
	if m.Count() != count {
		t.Error("of none an access")
	}
}

// P11.2: without a memory, what is loaded is 0, and no swap succeeds.
func TestNoMemory(t *testing.T) {
	for _, m := range []*cells.Mem{nil, {}} {
		alloc := arena.NewAlloc(small)
		if alloc.Step(m) || !alloc.Step(m) {
			t.Error("an alloc loads the top and the count")
		}
		checkOutcome(t, alloc, 0, api.ErrFull)

		free := arena.NewFree(small, 1)
		for range 50 {
			if free.Step(m) {
				t.Fatal("a push cannot end")
			}
		}
		checkOutcome(t, free, 0, api.ErrBusy)
		worn := small
		worn.Limit = 0
		free = arena.NewFree(worn, 1)
		if free.Step(m) || !free.Step(m) {
			t.Error("a worn node is counted, if in vain")
		}
		checkOutcome(t, free, 0, api.OK)
	}
}

// P11.2: an operation that is stepped in another memory continues there.
func TestOtherMemory(t *testing.T) {
	m, other := filled(t), filled(t)
	other.Store(4, 5)
	alloc := arena.NewAlloc(small)
	checkStep(t, alloc, m, load(0, 1), false)
	checkStep(t, alloc, other, load(1, 2), false)
	checkStep(t, alloc, m, swap(0, 1, 0x10002), false)
	checkStep(t, alloc, other, load(4, 5), true)
	checkOutcome(t, alloc, 0x5_0001, api.OK)

	free := arena.NewFree(small, 0)
	checkStep(t, free, m, load(4, 1), false)
	checkStep(t, free, mem(t, 0), api.Access{Kind: api.AccessStore, At: 4}, false)
	checkStep(t, free, other, load(0, 1), false)
	checkStep(t, free, m, store(1, 2, 1), false)
	checkStep(t, free, other, swap(0, 1, 0x10001), true)
	checkOutcome(t, free, 0, api.OK)
}
