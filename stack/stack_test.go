package stack_test

import (
	"math"
	"slices"
	"testing"

	"coxswain/api"
	"coxswain/cells"
	"coxswain/stack"
)

// small is the stack of the chapter's examples.
var small = api.Stack{Top: 0, Links: 1, Size: 3}

func mem(t *testing.T, words ...uint64) *cells.Mem {
	t.Helper()
	m, err := cells.New(len(words))
	if err != api.OK {
		t.Fatal("memory:", err)
	}
	for at, w := range words {
		m.Store(at, w)
	}
	return m
}

// filled is a memory of the small stack, with all of its indices.
func filled(t *testing.T) *cells.Mem {
	t.Helper()
	m := mem(t, 0, 0, 0, 0)
	stack.Fill(small, m)
	checkWords(t, m, 1, 2, 3, 0)
	return m
}

func checkWords(t *testing.T, m *cells.Mem, want ...uint64) {
	t.Helper()
	if got := m.Words(); !slices.Equal(got, want) {
		t.Errorf("words: %x, want %x", got, want)
	}
}

// checkChain also sees to it that looking is not an access.
func checkChain(t *testing.T, s api.Stack, m *cells.Mem, want ...int) {
	t.Helper()
	last, count := m.Last(), m.Count()
	if got := stack.Chain(s, m); !slices.Equal(got, want) {
		t.Errorf("chain of %v: %v, want %v", s, got, want)
	}
	if m.Last() != last || m.Count() != count {
		t.Error("chain made an access")
	}
}

// operation is what all kinds have in common.
type operation interface{ Step(*cells.Mem) bool }

// outcome is what an operation came to; a push has no index.
func outcome(x operation) (int, api.Errno) {
	switch x := x.(type) {
	case *stack.Pop:
		return x.Index()
	case *stack.Push:
		return 0, x.Err()
	case *stack.All:
		return x.Index()
	}
	return -1, -1
}

func checkOutcome(t *testing.T, x operation, index int, err api.Errno) {
	t.Helper()
	if i, e := outcome(x); i != index || e != err {
		t.Errorf("outcome: %d %v, want %d %v", i, e, index, err)
	}
}

func load(at int, w uint64) api.Access {
	return api.Access{Kind: api.AccessLoad, At: at, Old: w, New: w}
}

func store(at int, old, new uint64) api.Access {
	return api.Access{Kind: api.AccessStore, At: at, Old: old, New: new, Held: true}
}

func swap(at int, old, new uint64) api.Access {
	return api.Access{Kind: api.AccessCAS, At: at, Old: old, New: new, Held: true}
}

func missed(at int, w uint64) api.Access {
	return api.Access{Kind: api.AccessCAS, At: at, Old: w, New: w}
}

// checkStep makes a step, which is to be one access, and says whether it is to be the last one.
func checkStep(t *testing.T, x operation, m *cells.Mem, want api.Access, end bool) {
	t.Helper()
	if _, err := outcome(x); err != api.ErrBusy {
		t.Error("ahead of the end:", err)
	}
	count := m.Count()
	if got := x.Step(m); got != end {
		t.Errorf("step: %v, want %v", got, end)
	}
	if m.Count() != count+1 || m.Last() != want {
		t.Errorf("%d accesses, the last one %+v, want one, %+v", m.Count()-count, m.Last(), want)
	}
}

// checkSteps makes all steps of an operation, the last of which ends it.
func checkSteps(t *testing.T, x operation, m *cells.Mem, want ...api.Access) {
	t.Helper()
	for i, a := range want {
		checkStep(t, x, m, a, i == len(want)-1)
	}
	checkEnded(t, x, m)
}

// checkEnded sees to it that steps behind the end make no access and change no outcome.
func checkEnded(t *testing.T, x operation, m *cells.Mem) {
	t.Helper()
	index, err := outcome(x)
	last, count := m.Last(), m.Count()
	for range 3 {
		if !x.Step(m) || !x.Step(nil) {
			t.Error("it has ended")
		}
		checkOutcome(t, x, index, err)
	}
	if m.Last() != last || m.Count() != count {
		t.Error("an access behind the end")
	}
}

// The chapter's examples.
func TestExample(t *testing.T) {
	m := filled(t)
	checkChain(t, small, m, 0, 1, 2)

	pop := stack.NewPop(small)
	checkSteps(t, pop, m, load(0, 1), load(1, 2), swap(0, 1, 0x10002))
	checkOutcome(t, pop, 0, api.OK)
	checkChain(t, small, m, 1, 2)

	push := stack.NewPush(small, 0)
	checkSteps(t, push, m, load(0, 0x10002), store(1, 2, 2), swap(0, 0x10002, 0x20001))
	checkOutcome(t, push, 0, api.OK)
	checkChain(t, small, m, 0, 1, 2)

	all := stack.NewAll(small)
	checkSteps(t, all, m, load(0, 0x20001), swap(0, 0x20001, 0x30000))
	checkOutcome(t, all, 0, api.OK)
	checkChain(t, small, m)

	pop = stack.NewPop(small)
	checkSteps(t, pop, m, load(0, 0x30000))
	checkOutcome(t, pop, 0, api.ErrNone)

	push = stack.NewPush(small, 3)
	checkOutcome(t, push, 0, api.ErrRange)
	checkEnded(t, push, m)
	for _, c := range []struct {
		s     api.Stack
		cells int
		want  api.Errno
	}{
		{small, 3, api.ErrArg},
		{api.Stack{Top: 2, Links: 1, Size: 3}, 4, api.ErrArg},
		{api.Stack{Top: 0, Links: 1, Size: 0}, 4, api.ErrArg},
		{small, 0, api.ErrRange},
	} {
		if got := stack.Fits(c.s, c.cells); got != c.want {
			t.Errorf("%v in %d cells: %v, want %v", c.s, c.cells, got, c.want)
		}
	}
}

// P10.1: which stacks fit, in words of the term: cells that are there, none of them twice.
func TestFits(t *testing.T) {
	for n := -1; n <= 6; n++ {
		for top := -2; top <= 7; top++ {
			for links := -2; links <= 7; links++ {
				for size := -1; size <= 7; size++ {
					s := api.Stack{Top: top, Links: links, Size: size}
					if got, want := stack.Fits(s, n), fits(s, n); got != want {
						t.Fatalf("%v in %d cells: %v, want %v", s, n, got, want)
					}
				}
			}
		}
	}
	far := []int{math.MinInt, math.MinInt + 1, -1, 0, 1, 2, 4094, 4095, 4096, 4097, 1 << 32, math.MaxInt - 4095, math.MaxInt - 1, math.MaxInt}
	for _, n := range far {
		for _, top := range far {
			for _, links := range far {
				for _, size := range far {
					s := api.Stack{Top: top, Links: links, Size: size}
					if got, want := stack.Fits(s, n), fits(s, n); got != want {
						t.Fatalf("%v in %d cells: %v, want %v", s, n, got, want)
					}
				}
			}
		}
	}
}

func fits(s api.Stack, n int) api.Errno {
	if n < 1 || n > 4096 {
		return api.ErrRange
	}
	if s.Size < 1 || s.Size > 4096 {
		return api.ErrArg
	}
	has := map[int]bool{}
	for i := range s.Size + 1 {
		at := s.Links + i
		if i == s.Size {
			at = s.Top
		}
		if at < 0 || at >= n || has[at] {
			return api.ErrArg
		}
		has[at] = true
	}
	return api.OK
}

// P10.1: what Fill stores, where, and in which order: what is stored last holds in a cell that is both top and link.
func TestFill(t *testing.T) {
	for _, c := range []struct {
		s    api.Stack
		want []uint64
	}{
		{api.Stack{Top: 3, Links: 0, Size: 3}, []uint64{2, 3, 0, 1, 99, 99}},
		{api.Stack{Top: 5, Links: 2, Size: 1}, []uint64{99, 99, 0, 99, 99, 1}},
		{api.Stack{Top: 0, Links: 2, Size: 2}, []uint64{1, 99, 2, 0, 99, 99}},
		{api.Stack{Top: 1, Links: 1, Size: 2}, []uint64{99, 2, 0, 99, 99, 99}},
		{api.Stack{Top: 2, Links: 1, Size: 2}, []uint64{99, 2, 0, 99, 99, 99}},
		{api.Stack{Top: 9, Links: 4, Size: 4}, []uint64{99, 99, 99, 99, 2, 3}},
		{api.Stack{Top: -1, Links: -2, Size: 4}, []uint64{4, 0, 99, 99, 99, 99}},
		{api.Stack{Top: 0, Links: math.MaxInt, Size: 3}, []uint64{1, 99, 99, 99, 99, 99}},
	} {
		m := mem(t, 99, 99, 99, 99, 99, 99)
		stack.Fill(c.s, m)
		checkWords(t, m, c.want...)
		if m.Count() != 6+1+c.s.Size {
			t.Errorf("%v: %d accesses", c.s, m.Count()-6)
		}
	}
	for _, size := range []int{math.MinInt, -1, 0, 4097, 65535, math.MaxInt} {
		m := mem(t, 99, 99, 99)
		stack.Fill(api.Stack{Top: 0, Links: 1, Size: size}, m)
		checkWords(t, m, 99, 99, 99)
		if m.Count() != 3 {
			t.Errorf("size %d: an access", size)
		}
	}
}

// P10.1: the greatest stack that there is.
func TestGreatest(t *testing.T) {
	s := api.Stack{Top: 4095, Links: 0, Size: 4095}
	m := mem(t, make([]uint64, 4096)...)
	if err := stack.Fits(s, 4096); err != api.OK {
		t.Error("fits:", err)
	}
	stack.Fill(s, m)
	var want []int
	for i := range 4095 {
		want = append(want, i)
	}
	checkChain(t, s, m, want...)
	for _, i := range want {
		pop := stack.NewPop(s)
		for range 3 {
			pop.Step(m)
		}
		checkOutcome(t, pop, i, api.OK)
	}
	checkChain(t, s, m)

	one := api.Stack{Top: 4095, Links: 0, Size: 4096}
	stack.Fill(one, m)
	if m.Words()[4094] != 4096 || m.Words()[4095] != 0 {
		t.Error("a fill of the greatest size goes to its end")
	}
}

// P10.1: what words are read as: tags do not matter, what is no place is none, and there are no more than places.
func TestChain(t *testing.T) {
	for _, c := range []struct {
		s     api.Stack
		words []uint64
		want  []int
	}{
		{small, []uint64{0, 1, 2, 3}, nil},
		{small, []uint64{0xffffffffffff0000, 1, 2, 3}, nil},
		{small, []uint64{4, 1, 2, 3}, nil},
		{small, []uint64{0xffff, 1, 2, 3}, nil},
		{small, []uint64{1, 4, 0, 0}, []int{0}},
		{small, []uint64{0xabcdef0123450003, 0x70000, 0, 0xffffffffffff0001}, []int{2, 0}},
		{small, []uint64{2, 0x50003, 0, 0}, []int{1}},
		{small, []uint64{2, 0x50003, 3, 0x1}, []int{1, 2, 0}},
		{small, []uint64{3, 3, 3, 3}, []int{2, 2, 2}},
		{small, []uint64{1, 2, 1, 0}, []int{0, 1, 0}},
		{small, []uint64{1, 2}, []int{0, 1}},
		{api.Stack{Top: 9, Links: 0, Size: 3}, []uint64{1, 1, 1}, nil},
		{api.Stack{Top: -1, Links: 0, Size: 3}, []uint64{1, 1, 1}, nil},
		{api.Stack{Top: 0, Links: -1, Size: 3}, []uint64{2, 0, 1}, []int{1, 1, 1}},
		{api.Stack{Top: 0, Links: math.MaxInt, Size: 3}, []uint64{3, 1, 1}, []int{2}},
		{api.Stack{Top: 0, Links: math.MinInt, Size: 3}, []uint64{3, 1, 1}, []int{2}},
		{api.Stack{Top: 0, Links: 0, Size: 0}, []uint64{1, 1}, nil},
		{api.Stack{Top: 0, Links: 0, Size: math.MinInt}, []uint64{1, 1}, nil},
		{api.Stack{Top: 0, Links: 1, Size: 5000}, []uint64{3, 3, 1, 2}, []int{2, 1, 0, 2, 1}},
		{api.Stack{Top: 0, Links: 1, Size: math.MaxInt}, []uint64{3, 3, 0xffff, 2}, []int{2, 1, 65534}},
	} {
		if c.s.Size == 5000 {
			got := stack.Chain(c.s, mem(t, c.words...))
			if len(got) != 5000 || !slices.Equal(got[:5], c.want) {
				t.Errorf("links that lead back: %d indices", len(got))
			}
			continue
		}
		checkChain(t, c.s, mem(t, c.words...), c.want...)
	}
	for _, m := range []*cells.Mem{nil, {}} {
		checkChain(t, small, m)
		stack.Fill(small, m)
	}
}

// P10.2, P10.3: those who come late begin anew, and read again.
func TestAnew(t *testing.T) {
	m := filled(t)
	pop, push, all := stack.NewPop(small), stack.NewPush(small, 2), stack.NewAll(small)
	checkStep(t, pop, m, load(0, 1), false)
	checkStep(t, push, m, load(0, 1), false)
	checkStep(t, all, m, load(0, 1), false)
	m.Store(0, 0x50002)
	checkStep(t, pop, m, load(1, 2), false)
	checkStep(t, push, m, store(3, 0, 1), false)
	checkStep(t, all, m, missed(0, 0x50002), false)
	checkStep(t, pop, m, missed(0, 0x50002), false)
	checkStep(t, push, m, missed(0, 0x50002), false)

	checkStep(t, pop, m, load(0, 0x50002), false)
	checkStep(t, all, m, load(0, 0x50002), false)
	checkStep(t, push, m, load(0, 0x50002), false)
	checkSteps(t, all, m, swap(0, 0x50002, 0x60000))
	checkOutcome(t, all, 1, api.OK)
	checkStep(t, pop, m, load(2, 3), false)
	checkStep(t, pop, m, missed(0, 0x60000), false)
	checkStep(t, push, m, store(3, 1, 2), false)
	checkStep(t, push, m, missed(0, 0x60000), false)
	checkSteps(t, pop, m, load(0, 0x60000))
	checkOutcome(t, pop, 0, api.ErrNone)
	checkSteps(t, push, m, load(0, 0x60000), store(3, 2, 0), swap(0, 0x60000, 0x70003))
	checkOutcome(t, push, 0, api.OK)
	checkChain(t, small, m, 2)

	all = stack.NewAll(small)
	checkStep(t, all, m, load(0, 0x70003), false)
	m.Store(0, 0x80000)
	checkStep(t, all, m, missed(0, 0x80000), false)
	checkSteps(t, all, m, load(0, 0x80000))
	checkOutcome(t, all, 0, api.ErrNone)
}

// The third of the document's ten examples: the index is the same one again, but not the tag.
func TestSameAgain(t *testing.T) {
	m := filled(t)
	late := stack.NewPop(small)
	checkStep(t, late, m, load(0, 1), false)
	checkStep(t, late, m, load(1, 2), false)
	checkSteps(t, stack.NewPop(small), m, load(0, 1), load(1, 2), swap(0, 1, 0x10002))
	checkSteps(t, stack.NewPop(small), m, load(0, 0x10002), load(2, 3), swap(0, 0x10002, 0x20003))
	checkSteps(t, stack.NewPush(small, 0), m, load(0, 0x20003), store(1, 2, 3), swap(0, 0x20003, 0x30001))
	checkStep(t, late, m, missed(0, 0x30001), false)
	checkSteps(t, late, m, load(0, 0x30001), load(1, 3), swap(0, 0x30001, 0x40003))
	checkOutcome(t, late, 0, api.OK)
	checkChain(t, small, m, 2)
}

// P10.2: what is no place is read as none, tags of links do not matter, and behind the last tag comes 0.
func TestRead(t *testing.T) {
	const last = 1<<64 - 1<<16
	m := mem(t, last|3, 0, 0, last|1)
	pop := stack.NewPop(small)
	checkSteps(t, pop, m, load(0, last|3), load(3, last|1), swap(0, last|3, 1))
	checkOutcome(t, pop, 2, api.OK)

	m = mem(t, last|1, 4, 7, 7)
	pop = stack.NewPop(small)
	checkSteps(t, pop, m, load(0, last|1), load(1, 4), swap(0, last|1, 0))
	checkOutcome(t, pop, 0, api.OK)

	for _, none := range []uint64{4, 0x50004, 0xffff, last | 0xffff} {
		m = mem(t, none, 1, 1, 1)
		pop, all := stack.NewPop(small), stack.NewAll(small)
		checkSteps(t, pop, m, load(0, none))
		checkSteps(t, all, m, load(0, none))
		checkOutcome(t, pop, 0, api.ErrNone)
		checkOutcome(t, all, 0, api.ErrNone)
		push := stack.NewPush(small, 1)
		top := (none>>16+1)<<16 | 2
		checkSteps(t, push, m, load(0, none), store(2, 1, 0), swap(0, none, top))
		checkOutcome(t, push, 0, api.OK)
		checkChain(t, small, m, 1)
	}

	m = mem(t, last|2, 9, 9, 9)
	checkSteps(t, stack.NewPush(small, 0), m, load(0, last|2), store(1, 9, 2), swap(0, last|2, 1))
	m = mem(t, last|2, 9, 9, 9)
	all := stack.NewAll(small)
	checkSteps(t, all, m, load(0, last|2), swap(0, last|2, 0))
	checkOutcome(t, all, 1, api.OK)
}

// P10.3: which indices may be pushed, of stacks of all sizes.
func TestPushRange(t *testing.T) {
	for _, size := range []int{math.MinInt, -1, 0, 1, 2, 3, 4096, 65535, 65536, math.MaxInt} {
		for _, i := range []int{math.MinInt, -2, -1, 0, 1, 2, 3, 4095, 4096, 65534, 65535, 65536, math.MaxInt} {
			m := mem(t, 0, 7, 7, 7)
			push := stack.NewPush(api.Stack{Top: 0, Links: 1, Size: size}, i)
			if i < 0 || i >= size || i > api.MaxIndex {
				checkOutcome(t, push, 0, api.ErrRange)
				checkEnded(t, push, m)
				continue
			}
			was, is := uint64(7), uint64(0)
			a := store(1+i, was, is)
			if i > 2 {
				a = api.Access{Kind: api.AccessStore, At: 1 + i}
			}
			checkSteps(t, push, m, load(0, 0), a, swap(0, 0, 0x10001+uint64(i)))
			checkOutcome(t, push, 0, api.OK)
		}
	}
}

// P10.2: of operations that nobody made.
func TestNobodys(t *testing.T) {
	m := filled(t)
	var pop *stack.Pop
	var push *stack.Push
	var all *stack.All
	for _, x := range []operation{pop, push, all, &stack.Pop{}, &stack.Push{}, &stack.All{}} {
		checkOutcome(t, x, 0, api.ErrNil)
		checkEnded(t, x, m)
		checkOutcome(t, x, 0, api.ErrNil)
	}
}

// P10.2: where there are no cells 0 is loaded, and no compare-and-swap succeeds.
func TestNoMemory(t *testing.T) {
	for _, m := range []*cells.Mem{nil, {}} {
		pop, all, push := stack.NewPop(small), stack.NewAll(small), stack.NewPush(small, 0)
		if !pop.Step(m) || !all.Step(m) {
			t.Error("there is nothing to take")
		}
		checkOutcome(t, pop, 0, api.ErrNone)
		checkOutcome(t, all, 0, api.ErrNone)
		for range 20 {
			if push.Step(m) {
				t.Error("there is no top to push onto")
			}
			checkOutcome(t, push, 0, api.ErrBusy)
		}
	}
	out := api.Stack{Top: 7, Links: 9, Size: 3}
	m := filled(t)
	pop, push := stack.NewPop(out), stack.NewPush(out, 0)
	checkSteps(t, pop, m, api.Access{Kind: api.AccessLoad, At: 7})
	checkOutcome(t, pop, 0, api.ErrNone)
	for range 3 {
		checkStep(t, push, m, api.Access{Kind: api.AccessLoad, At: 7}, false)
		checkStep(t, push, m, api.Access{Kind: api.AccessStore, At: 9}, false)
		checkStep(t, push, m, api.Access{Kind: api.AccessCAS, At: 7}, false)
	}
	far := api.Stack{Top: 0, Links: math.MaxInt, Size: 3}
	pop = stack.NewPop(far)
	m.Store(0, 2)
	checkSteps(t, pop, m, load(0, 2), api.Access{Kind: api.AccessLoad, At: math.MinInt}, swap(0, 2, 0x10000))
	checkOutcome(t, pop, 1, api.OK)
}

// P10.2: an operation that is stepped in another memory continues there.
func TestOtherMemory(t *testing.T) {
	m, other := filled(t), filled(t)
	pop := stack.NewPop(small)
	checkStep(t, pop, m, load(0, 1), false)
	checkStep(t, pop, other, load(1, 2), false)
	checkStep(t, pop, other, swap(0, 1, 0x10002), true)
	checkOutcome(t, pop, 0, api.OK)
	checkWords(t, m, 1, 2, 3, 0)

	push := stack.NewPush(small, 0)
	checkStep(t, push, other, load(0, 0x10002), false)
	if push.Step(nil) {
		t.Error("a store to no cell is not the last step")
	}
	checkWords(t, other, 0x10002, 2, 3, 0)
	checkStep(t, push, other, swap(0, 0x10002, 0x20001), true)
	checkOutcome(t, push, 0, api.OK)
	checkWords(t, m, 1, 2, 3, 0)
}

// P10.1: what Chain returns is the caller's own.
func TestOwn(t *testing.T) {
	m := filled(t)
	for range 2 {
		l := stack.Chain(small, m)
		if !slices.Equal(l, []int{0, 1, 2}) {
			t.Error("chain:", l)
		}
		for i := range l[:cap(l)] {
			l[:cap(l)][i] = 99
		}
	}
	checkWords(t, m, 1, 2, 3, 0)
}
