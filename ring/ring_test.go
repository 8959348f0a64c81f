package ring_test

import (
	"math"
	"slices"
	"testing"

	"coxswain/api"
	"coxswain/cells"
	"coxswain/ring"
)

// small is the ring of the chapter's examples.
var small = api.Ring{Head: 0, Tail: 1, Slots: 2, Size: 2}

const full = 1 << 16

// lap is the word of an empty slot with a lap.
func lap(n uint64) uint64 { return n << 32 }

func mem(t *testing.T, words ...uint64) *cells.Mem {
	t.Helper()
	m, err := cells.New(len(words))
	if err != api.OK {
		t.Fatal("memory:", err)
	}
	for at, w := range words {
		m.Store(at, w)
	}
	return m
}

// filled is a memory of the small ring, without values.
func filled(t *testing.T) *cells.Mem {
	t.Helper()
	m := mem(t, 9, 9, 9, 9, 0)
	ring.Fill(small, m)
	checkWords(t, m, 0, 0, 0, 0, 0)
	return m
}

func checkWords(t *testing.T, m *cells.Mem, want ...uint64) {
	t.Helper()
	if got := m.Words(); !slices.Equal(got, want) {
		t.Errorf("words: %x, want %x", got, want)
	}
}

// checkAll also sees to it that looking is not an access.
func checkAll(t *testing.T, r api.Ring, m *cells.Mem, want ...int) {
	t.Helper()
	last, count := m.Last(), m.Count()
	if got := ring.All(r, m); !slices.Equal(got, want) {
		t.Errorf("all of %v in %x: %v, want %v", r, m.Words(), got, want)
	}
	if m.Last() != last || m.Count() != count {
		t.Error("all made an access")
	}
}

// operation is what all kinds have in common.
type operation interface{ Step(*cells.Mem) bool }

// run makes all steps of an operation, and returns how many these are.
func run(x operation, m *cells.Mem) int {
	n := 1
	for !x.Step(m) {
		n++
	}
	return n
}

// outcome is what an operation came to; only a front has a value and a number.
func outcome(x operation) (value int, at uint64, err api.Errno) {
	switch x := x.(type) {
	case *ring.Push:
		err = x.Err()
	case *ring.Front:
		value, err = x.Value()
		at = x.At()
	case *ring.Drop:
		err = x.Err()
	}
	return value, at, err
}

func checkOutcome(t *testing.T, x operation, value int, at uint64, err api.Errno) {
	t.Helper()
	if v, a, e := outcome(x); v != value || a != at || e != err {
		t.Errorf("outcome: %d at %x, %v, want %d at %x, %v", v, a, e, value, at, err)
	}
}

func load(at int, w uint64) api.Access {
	return api.Access{Kind: api.AccessLoad, At: at, Old: w, New: w}
}

func store(at int, old, new uint64) api.Access {
	return api.Access{Kind: api.AccessStore, At: at, Old: old, New: new, Held: true}
}

func swap(at int, old, new uint64) api.Access {
	return api.Access{Kind: api.AccessCAS, At: at, Old: old, New: new, Held: true}
}

func missed(at int, w uint64) api.Access {
	return api.Access{Kind: api.AccessCAS, At: at, Old: w, New: w}
}

// checkStep makes a step, which is to be one access, and says whether it is to be the last one.
func checkStep(t *testing.T, x operation, m *cells.Mem, want api.Access, end bool) {
	t.Helper()
	if v, _, err := outcome(x); v != 0 || err != api.ErrBusy {
		t.Error("ahead of the end:", v, err)
	}
	count := m.Count()
	if got := x.Step(m); got != end {
		t.Errorf("step: %v, want %v", got, end)
	}
	if m.Count() != count+1 || m.Last() != want {
		t.Errorf("%d accesses, the last one %+v, want one, %+v", m.Count()-count, m.Last(), want)
	}
}

// checkSome makes some steps, behind each of which there is another one.
func checkSome(t *testing.T, x operation, m *cells.Mem, want ...api.Access) {
	t.Helper()
	for _, a := range want {
		checkStep(t, x, m, a, false)
	}
}

// checkSteps makes all steps that there are, the last of which ends the operation.
func checkSteps(t *testing.T, x operation, m *cells.Mem, want ...api.Access) {
	t.Helper()
	for i, a := range want {
		checkStep(t, x, m, a, i == len(want)-1)
	}
	checkEnded(t, x, m)
}

// checkEnded sees to it that steps behind the end make no access and change no outcome.
func checkEnded(t *testing.T, x operation, m *cells.Mem) {
	t.Helper()
	value, at, err := outcome(x)
	last, count := m.Last(), m.Count()
	for range 3 {
		if !x.Step(m) || !x.Step(nil) {
			t.Error("it has ended")
		}
		checkOutcome(t, x, value, at, err)
	}
	if m.Last() != last || m.Count() != count {
		t.Error("an access behind the end")
	}
}

// The chapter's examples.
func TestExample(t *testing.T) {
	m := filled(t)
	push := ring.NewPush(small, 5)
	checkSteps(t, push, m, load(1, 0), load(2, 0), swap(2, 0, 0x10005), swap(1, 0, 1))
	checkOutcome(t, push, 0, 0, api.OK)
	checkWords(t, m, 0, 1, 0x10005, 0, 0)
	push = ring.NewPush(small, 7)
	checkSteps(t, push, m, load(1, 1), load(3, 0), swap(3, 0, 0x10007), swap(1, 1, 2))
	checkOutcome(t, push, 0, 0, api.OK)
	push = ring.NewPush(small, 9)
	checkSteps(t, push, m, load(1, 2), load(2, 0x10005))
	checkOutcome(t, push, 0, 0, api.ErrFull)
	checkAll(t, small, m, 5, 7)

	front := ring.NewFront(small)
	checkSteps(t, front, m, load(0, 0), load(2, 0x10005))
	checkOutcome(t, front, 5, 0, api.OK)
	drop := ring.NewDrop(small, 0)
	checkSteps(t, drop, m, store(2, 0x10005, 0x100000000), store(0, 0, 1))
	checkOutcome(t, drop, 0, 0, api.OK)
	checkWords(t, m, 1, 2, 0x100000000, 0x10007, 0)
	checkAll(t, small, m, 7)

	checkSteps(t, ring.NewPush(small, 9), m, load(1, 2), load(2, 0x100000000), swap(2, 0x100000000, 0x100010009), swap(1, 2, 3))
	front = ring.NewFront(small)
	checkSteps(t, front, m, load(0, 1), load(3, 0x10007))
	checkOutcome(t, front, 7, 1, api.OK)
	checkSteps(t, ring.NewDrop(small, 1), m, store(3, 0x10007, 0x100000000), store(0, 1, 2))
	front = ring.NewFront(small)
	checkSteps(t, front, m, load(0, 2), load(2, 0x100010009))
	checkOutcome(t, front, 9, 2, api.OK)
}

// The chapter's examples, of a push that stops for a while, and the fourth of the document's ten: another one moves the tail for it.
func TestExampleHelp(t *testing.T) {
	m := filled(t)
	first, second := ring.NewPush(small, 5), ring.NewPush(small, 7)
	checkSome(t, first, m, load(1, 0), load(2, 0), swap(2, 0, 0x10005))
	checkAll(t, small, m, 5)
	checkSteps(t, second, m, load(1, 0), load(2, 0x10005), swap(1, 0, 1), load(1, 1), load(3, 0), swap(3, 0, 0x10007), swap(1, 1, 2))
	checkOutcome(t, second, 0, 0, api.OK)
	checkSteps(t, first, m, missed(1, 2))
	checkOutcome(t, first, 0, 0, api.OK)
	checkAll(t, small, m, 5, 7)
}

// The chapter's examples of wrong inputs.
func TestExampleWrong(t *testing.T) {
	m := filled(t)
	push := ring.NewPush(small, 65536)
	checkOutcome(t, push, 0, 0, api.ErrRange)
	checkEnded(t, push, m)
	none := small
	none.Size = 0
	front := ring.NewFront(none)
	checkOutcome(t, front, 0, 0, api.ErrArg)
	checkEnded(t, front, m)
	for _, c := range []struct {
		r     api.Ring
		cells int
		want  api.Errno
	}{
		{small, 3, api.ErrArg},
		{none, 5, api.ErrArg},
		{api.Ring{Head: 3, Tail: 1, Slots: 2, Size: 2}, 5, api.ErrArg},
		{small, 0, api.ErrRange},
		{small, 4, api.OK},
	} {
		if got := ring.Fits(c.r, c.cells); got != c.want {
			t.Errorf("%v in %d cells: %v, want %v", c.r, c.cells, got, c.want)
		}
	}
}

// P14.1: which rings fit, in words of the term: cells that are there, none of them twice.
func TestFits(t *testing.T) {
	near := []int{-2, -1, 0, 1, 2, 3, 4, 5, 6}
	far := []int{math.MinInt, math.MinInt + 1, -1, 0, 2, 4094, 4095, 4096, 4097, math.MaxInt - 4095, math.MaxInt}
	for _, numbers := range [][]int{near, far} {
		for _, n := range numbers {
			for _, head := range numbers {
				for _, tail := range numbers {
					checkFits(t, numbers, n, head, tail)
				}
			}
		}
	}
}

func checkFits(t *testing.T, numbers []int, n, head, tail int) {
	t.Helper()
	for _, at := range numbers {
		for _, size := range numbers {
			r := api.Ring{Head: head, Tail: tail, Slots: at, Size: size}
			if got, want := ring.Fits(r, n), fits(r, n); got != want {
				t.Fatalf("%+v in %d cells: %v, want %v", r, n, got, want)
			}
		}
	}
}

func fits(r api.Ring, n int) api.Errno {
	if n < 1 || n > 4096 {
		return api.ErrRange
	}
	if r.Size < 1 || r.Size > 4096 {
		return api.ErrArg
	}
	has := make([]bool, n)
	for i := range r.Size + 2 {
		at := r.Slots + i - 2
		switch i {
		case 0:
			at = r.Head
		case 1:
			at = r.Tail
		}
		if at < 0 || at >= n || has[at] {
			return api.ErrArg
		}
		has[at] = true
	}
	return api.OK
}

// P14.1: what Fill stores, where, and how often: also where that is no cell, or one cell twice. (In which order it stores the same word shows in the last one only.)
func TestFill(t *testing.T) {
	for _, c := range []struct {
		r    api.Ring
		want []uint64
	}{
		{api.Ring{Head: 0, Tail: 1, Slots: 2, Size: 3}, []uint64{0, 0, 0, 0, 0, 99}},
		{api.Ring{Head: 5, Tail: 3, Slots: 0, Size: 2}, []uint64{0, 0, 99, 0, 99, 0}},
		{api.Ring{Head: 1, Tail: 4, Slots: 2, Size: 1}, []uint64{99, 0, 0, 99, 0, 99}},
		{api.Ring{Head: 1, Tail: 1, Slots: 1, Size: 2}, []uint64{99, 0, 0, 99, 99, 99}},
		{api.Ring{Head: -1, Tail: 9, Slots: 4, Size: 4}, []uint64{99, 99, 99, 99, 0, 0}},
		{api.Ring{Head: 0, Tail: math.MinInt, Slots: -2, Size: 4}, []uint64{0, 0, 99, 99, 99, 99}},
		{api.Ring{Head: 5, Tail: 4, Slots: math.MaxInt, Size: 3}, []uint64{99, 99, 99, 99, 0, 0}},
	} {
		m := mem(t, 99, 99, 99, 99, 99, 99)
		ring.Fill(c.r, m)
		checkWords(t, m, c.want...)
		if m.Count() != 6+2+c.r.Size {
			t.Errorf("%+v: %d accesses", c.r, m.Count()-6)
		}
		if last := m.Last(); last.Kind != api.AccessStore || last.At != c.r.Slots+c.r.Size-1 {
			t.Errorf("%+v: the last one is %+v", c.r, last)
		}
	}
	for _, size := range []int{math.MinInt, -1, 0, 4097, 65536, math.MaxInt} {
		m := mem(t, 99, 99, 99)
		ring.Fill(api.Ring{Head: 0, Tail: 1, Slots: 2, Size: size}, m)
		checkWords(t, m, 99, 99, 99)
		if m.Count() != 3 {
			t.Errorf("size %d: an access", size)
		}
	}
	for _, m := range []*cells.Mem{nil, {}} {
		ring.Fill(small, m)
		checkAll(t, small, m)
	}
}

// P14.1: the slots come last, also where one of them is the head or the tail.
func TestFillOrder(t *testing.T) {
	for _, r := range []api.Ring{{Head: 3, Tail: 1, Slots: 3, Size: 1}, {Head: 1, Tail: 3, Slots: 3, Size: 1}} {
		m := mem(t, 99, 99, 99, 99, 99)
		ring.Fill(r, m)
		if m.Last() != store(3, 0, 0) {
			t.Errorf("%+v: %+v", r, m.Last())
		}
	}
}

// P14.1: the greatest rings that there are, once round, and on.
func TestGreatest(t *testing.T) {
	r := api.Ring{Head: 4095, Tail: 0, Slots: 1, Size: 4094}
	m := mem(t, make([]uint64, 4096)...)
	if err := ring.Fits(r, 4096); err != api.OK {
		t.Error("fits:", err)
	}
	ring.Fill(r, m)
	var want []int
	for i := range 4094 {
		want = append(want, 65535-i)
		if n := run(ring.NewPush(r, 65535-i), m); n != 4 {
			t.Fatalf("push %d: %d steps", i, n)
		}
	}
	checkAll(t, r, m, want...)
	push := ring.NewPush(r, 0)
	checkSteps(t, push, m, load(0, 4094), load(1, full|65535))
	checkOutcome(t, push, 0, 0, api.ErrFull)
	for i, v := range want {
		front := ring.NewFront(r)
		run(front, m)
		checkOutcome(t, front, v, uint64(i), api.OK)
		run(ring.NewDrop(r, uint64(i)), m)
	}
	checkAll(t, r, m)
	checkSteps(t, ring.NewPush(r, 3), m, load(0, 4094), load(1, lap(1)), swap(1, lap(1), lap(1)|full|3), swap(0, 4094, 4095))

	one := api.Ring{Head: 4095, Tail: 0, Slots: 0, Size: 4096}
	for at := range 4096 {
		m.Store(at, 7)
	}
	ring.Fill(one, m)
	if m.Words()[4094] != 0 || m.Words()[4095] != 0 {
		t.Error("a fill of the greatest size goes to its end")
	}
	checkOutcome(t, ring.NewPush(one, 1), 0, 0, api.ErrBusy)
	checkOutcome(t, ring.NewFront(one), 0, 0, api.ErrBusy)
	checkOutcome(t, ring.NewDrop(one, 1), 0, 0, api.ErrBusy)
}

// P14.1: how words are read: from Head's number on, as long as slots are full with their laps.
func TestAll(t *testing.T) {
	three := api.Ring{Head: 0, Tail: 1, Slots: 2, Size: 3}
	const spare = 0xfffe0000
	for _, c := range []struct {
		r     api.Ring
		words []uint64
		want  []int
	}{
		{three, []uint64{0, 0, 0, 0, 0}, nil},
		{three, []uint64{0, 0, full | 4, full | 5, full | 6}, []int{4, 5, 6}},
		{three, []uint64{0, 9, full, full, full | 65535}, []int{0, 0, 65535}},
		{three, []uint64{0, 0, full | 4, 5, full | 6}, []int{4}},
		{three, []uint64{0, 0, 4, full | 5, full | 6}, nil},
		{three, []uint64{1, 0, full | 4, full | 5, full | 6}, []int{5, 6}},
		{three, []uint64{1, 0, lap(1) | full | 4, full | 5, full | 6}, []int{5, 6, 4}},
		{three, []uint64{2, 0, lap(1) | full | 4, full | 5, full | 6}, []int{6, 4}},
		{three, []uint64{2, 0, lap(1) | full | 4, lap(1) | full | 5, full | 6}, []int{6, 4, 5}},
		{three, []uint64{3, 0, lap(1) | full | 4, lap(1) | full | 5, full | 6}, []int{4, 5}},
		{three, []uint64{3, 0, full | 4, full | 5, full | 6}, nil},
		{three, []uint64{3, 0, lap(2) | full | 4, full | 5, full | 6}, nil},
		{three, []uint64{0, 0, spare | full | 4, spare | full | 65535, spare}, []int{4, 65535}},
		{three, []uint64{0, 0, 1<<17 | full | 4, 1<<31 | full | 5, 1<<32 | full | 6}, []int{4, 5}},
		{three, []uint64{3<<32 - 1, 0, full | 4, lap(1<<32-1) | full | 5, lap(1<<32-1) | full | 6}, []int{6, 4}},
		{three, []uint64{3 << 32, 0, full | 4, lap(1<<32-1) | full | 5, lap(1<<32-1) | full | 6}, []int{4}},
		{three, []uint64{math.MaxUint64, 0, lap(0x55555555) | full | 4, full | 5, full | 6}, []int{4}},
		{three, []uint64{math.MaxUint64 - 1, 0, full | 4, full | 5, lap(0x55555554) | full | 6}, []int{6}},
		{small, []uint64{math.MaxUint64, 0, full | 4, lap(1<<32-1) | full | 5}, []int{5, 4}},
		{small, []uint64{math.MaxUint64 - 1, 0, lap(1<<32-1) | full | 4, lap(1<<32-1) | full | 5}, []int{4, 5}},
		{api.Ring{Head: 0, Tail: 1, Slots: 2, Size: 1}, []uint64{1<<32 + 7, 0, lap(7) | full | 4}, []int{4}},
		{api.Ring{Head: 0, Tail: 1, Slots: 2, Size: 1}, []uint64{8, 0, lap(7) | full | 4}, nil},
		{three, []uint64{0, 0, full | 4, full | 5}, []int{4, 5}},
		{three, []uint64{0}, nil},
		{api.Ring{Head: -1, Tail: 0, Slots: 0, Size: 2}, []uint64{full | 1, full | 2}, []int{1, 2}},
		{api.Ring{Head: 2, Tail: 0, Slots: 0, Size: 2}, []uint64{full | 1, full | 2}, []int{1, 2}},
		{api.Ring{Head: math.MaxInt, Tail: 0, Slots: 1, Size: 5}, []uint64{full | 1, full | 2}, []int{2}},
		{api.Ring{Head: 0, Tail: 0, Slots: 0, Size: 1}, []uint64{lap(1) | full | 1}, nil},
		{api.Ring{Head: 0, Tail: 0, Slots: math.MaxInt, Size: 3}, []uint64{full | 1}, nil},
		{api.Ring{Head: 0, Tail: 0, Slots: -1, Size: 3}, []uint64{1, full | 6}, nil},
		{api.Ring{Head: 2, Tail: 0, Slots: -1, Size: 3}, []uint64{full | 5, full | 6, 1}, []int{5, 6}},
		{api.Ring{Head: 2, Tail: 0, Slots: 0, Size: 0}, []uint64{full | 1, full | 2}, nil},
		{api.Ring{Head: 2, Tail: 0, Slots: 0, Size: -1}, []uint64{full | 1, full | 2}, nil},
		{api.Ring{Head: 2, Tail: 0, Slots: 0, Size: math.MinInt}, []uint64{full | 1, full | 2}, nil},
		{api.Ring{Head: 2, Tail: 0, Slots: 0, Size: 4096}, []uint64{full | 1, full | 2}, []int{1, 2}},
		{api.Ring{Head: 2, Tail: 0, Slots: 0, Size: 4097}, []uint64{full | 1, full | 2}, nil},
		{api.Ring{Head: 2, Tail: 0, Slots: 0, Size: math.MaxInt}, []uint64{full | 1, full | 2}, nil},
	} {
		checkAll(t, c.r, mem(t, c.words...), c.want...)
	}
}

// P14.1: what All returns is nobody else's.
func TestAllNew(t *testing.T) {
	m := mem(t, 0, 2, full|5, full|7)
	l := ring.All(small, m)
	l[0] = 1
	checkAll(t, small, m, 5, 7)
	l[1] = 2
	checkAll(t, small, m, 5, 7)
}

// P14.2: how a push reads the slot of the tail's number: as free, as kept, or as one that another push has been at.
func TestPushReads(t *testing.T) {
	const last, spare = 1<<32 - 1, 0xfffe0000
	three := api.Ring{Head: 5, Tail: 0, Slots: 1, Size: 3}
	for _, c := range []struct {
		r         api.Ring
		tail      uint64
		at        int
		free, old uint64 // the laps of an empty and of a full slot that count
	}{
		{three, 0, 1, 0, last},
		{three, 1, 2, 0, last},
		{three, 2, 3, 0, last},
		{three, 3, 1, 1, 0},
		{three, 7, 2, 2, 1},
		{three, 3<<32 - 1, 3, last, last - 1},
		{three, 3 << 32, 1, 0, last},
		{three, 3<<33 + 4, 2, 1, 0},
		{three, math.MaxUint64 - 1, 3, 0x55555554, 0x55555553},
		{three, math.MaxUint64, 1, 0x55555555, 0x55555554},
		{api.Ring{Head: 5, Tail: 0, Slots: 1, Size: 1}, 77, 1, 77, 76},
		{api.Ring{Head: 5, Tail: 0, Slots: 1, Size: 1}, 1<<40 | 77, 1, 77, 76},
		{api.Ring{Head: 5, Tail: 0, Slots: 1, Size: 4096}, 4096 * 9, 1, 9, 8},
		{api.Ring{Head: 5, Tail: 0, Slots: -2, Size: 4096}, 4096*9 + 4, 2, 9, 8},
		{api.Ring{Head: 5, Tail: 0, Slots: 1, Size: 2}, math.MaxUint64, 2, last, last - 1},
	} {
		for _, extra := range []uint64{0, 1, 65535, spare, spare | 65535, 1 << 17, 1 << 31} {
			for _, l := range []uint64{c.free - 2, c.free - 1, c.free, c.free + 1, c.free + 1<<31, c.old ^ 1, 0, last} {
				l &= last
				for _, w := range []uint64{lap(l) | extra, lap(l) | full | extra} {
					m := mem(t, c.tail, 99, 99, 99, 99, 99)
					m.Store(c.at, w)
					push := ring.NewPush(c.r, 65535)
					switch {
					case w&full == 0 && l == c.free:
						checkSteps(t, push, m, load(0, c.tail), load(c.at, w), swap(c.at, w, lap(l)|full|65535), swap(0, c.tail, c.tail+1))
						checkOutcome(t, push, 0, 0, api.OK)
					case w&full != 0 && l == c.old:
						checkSteps(t, push, m, load(0, c.tail), load(c.at, w))
						checkOutcome(t, push, 0, 0, api.ErrFull)
					default:
						checkSome(t, push, m, load(0, c.tail), load(c.at, w), swap(0, c.tail, c.tail+1), load(0, c.tail+1))
					}
				}
			}
		}
	}
}

// P14.2: a push whose slot is filled meanwhile goes on, whatever was written there, and whether or not the tail has been moved.
func TestPushLate(t *testing.T) {
	for _, w := range []uint64{full, full | 6, 1, 1 << 17, lap(1), lap(1) | full} {
		m := filled(t)
		push := ring.NewPush(small, 6)
		checkSome(t, push, m, load(1, 0), load(2, 0))
		m.Store(2, w)
		checkSome(t, push, m, missed(2, w), swap(1, 0, 1), load(1, 1), load(3, 0))
		m.Store(3, 7)
		m.Store(1, 2)
		checkSome(t, push, m, missed(3, 7), missed(1, 2), load(1, 2))
		m.Store(1, 9)
		m.Store(2, lap(1)|1<<31|3)
		checkSteps(t, push, m, load(2, lap(1)|1<<31|3), swap(2, lap(1)|1<<31|3, lap(1)|full|6), missed(1, 9))
		checkOutcome(t, push, 0, 0, api.OK)
		checkWords(t, m, 0, 9, lap(1)|full|6, 7, 0)
	}
	m := filled(t)
	push := ring.NewPush(small, 0)
	checkSome(t, push, m, load(1, 0), load(2, 0), swap(2, 0, full))
	m.Store(1, 8)
	m.Store(2, 0)
	checkSteps(t, push, m, missed(1, 8))
	checkOutcome(t, push, 0, 0, api.OK)
	checkWords(t, m, 0, 8, 0, 0, 0)
}

// P14.2: behind the last number comes 0.
func TestPushWraps(t *testing.T) {
	m := mem(t, 0, math.MaxUint64, 0, lap(1<<32-1), 0)
	checkSteps(t, ring.NewPush(small, 3), m, load(1, math.MaxUint64), load(3, lap(1<<32-1)), swap(3, lap(1<<32-1), lap(1<<32-1)|full|3), swap(1, math.MaxUint64, 0))
	checkSteps(t, ring.NewPush(small, 4), m, load(1, 0), load(2, 0), swap(2, 0, full|4), swap(1, 0, 1))
	m.Store(0, math.MaxUint64)
	checkAll(t, small, m, 3, 4)
	front := ring.NewFront(small)
	checkSteps(t, front, m, load(0, math.MaxUint64), load(3, lap(1<<32-1)|full|3))
	checkOutcome(t, front, 3, math.MaxUint64, api.OK)
	checkSteps(t, ring.NewDrop(small, front.At()), m, store(3, lap(1<<32-1)|full|3, 0), store(0, math.MaxUint64, 0))
	checkAll(t, small, m, 4)
}

// P14.2: how a front reads the slot of the head's number.
func TestFrontReads(t *testing.T) {
	const last = 1<<32 - 1
	three := api.Ring{Head: 0, Tail: 5, Slots: 1, Size: 3}
	for _, c := range []struct {
		head  uint64
		at    int
		w     uint64
		value int
		err   api.Errno
	}{
		{0, 1, full, 0, api.OK},
		{0, 1, full | 65535, 65535, api.OK},
		{0, 1, 65535, 0, api.ErrNone},
		{0, 1, 0, 0, api.ErrNone},
		{0, 1, lap(1) | full | 4, 0, api.ErrNone},
		{0, 1, lap(last) | full | 4, 0, api.ErrNone},
		{0, 1, lap(1<<31) | full | 4, 0, api.ErrNone},
		{0, 1, 0xfffe0000 | full | 4, 4, api.OK},
		{0, 1, 0xfffe0004, 0, api.ErrNone},
		{1, 2, full | 4, 4, api.OK},
		{2, 3, full | 4, 4, api.OK},
		{3, 1, full | 4, 0, api.ErrNone},
		{3, 1, lap(1) | full | 4, 4, api.OK},
		{5, 3, lap(1) | 1<<17 | full | 4, 4, api.OK},
		{3<<32 - 2, 2, lap(last) | full | 4, 4, api.OK},
		{3 << 32, 1, full | 4, 4, api.OK},
		{3<<32 + 3, 1, lap(1) | full | 4, 4, api.OK},
		{math.MaxUint64, 1, lap(0x55555555) | full | 4, 4, api.OK},
		{math.MaxUint64 - 1, 3, lap(0x55555554) | full | 4, 4, api.OK},
		{math.MaxUint64 - 1, 3, lap(0x55555555) | full | 4, 0, api.ErrNone},
	} {
		m := mem(t, c.head, 99, 99, 99, 99, 99)
		m.Store(c.at, c.w)
		front := ring.NewFront(three)
		if front.At() != 0 {
			t.Error("at, ahead of the load:", front.At())
		}
		checkSome(t, front, m, load(0, c.head))
		checkOutcome(t, front, 0, c.head, api.ErrBusy)
		m.Store(0, 1234)
		checkSteps(t, front, m, load(c.at, c.w))
		checkOutcome(t, front, c.value, c.head, c.err)
	}
}

// P14.2: a drop stores by the number that it was given, whatever there is in the memory.
func TestDropStores(t *testing.T) {
	three := api.Ring{Head: 0, Tail: 5, Slots: 1, Size: 3}
	for _, c := range []struct {
		h    uint64
		at   int
		want uint64
	}{
		{0, 1, 1}, {1, 2, 1}, {2, 3, 1}, {3, 1, 2}, {5, 3, 2}, {3<<32 - 4, 3, 1<<32 - 1},
		{3<<32 - 1, 3, 0}, {3<<32 - 3, 1, 0}, {3 << 32, 1, 1}, {math.MaxUint64, 1, 0x55555556}, {math.MaxUint64 - 1, 3, 0x55555555},
	} {
		for _, w := range []uint64{0, full | 4, math.MaxUint64} {
			m := mem(t, 77, 99, 99, 99, 99, 99)
			m.Store(c.at, w)
			drop := ring.NewDrop(three, c.h)
			checkSteps(t, drop, m, store(c.at, w, lap(c.want)), store(0, 77, c.h+1))
			checkOutcome(t, drop, 0, 0, api.OK)
		}
	}
}

// P14.3: which values may be pushed; the size of the ring is asked first.
func TestRange(t *testing.T) {
	m := filled(t)
	count := m.Count()
	for _, v := range []int{0, 1, 65534, 65535} {
		checkOutcome(t, ring.NewPush(small, v), 0, 0, api.ErrBusy)
	}
	for _, v := range []int{math.MinInt, -1 << 32, -65536, -1, 65536, 1 << 32, math.MaxInt} {
		x := ring.NewPush(small, v)
		checkOutcome(t, x, 0, 0, api.ErrRange)
		checkEnded(t, x, m)
	}
	for _, size := range []int{math.MinInt, -1, 0, 4097, 1 << 32, math.MaxInt} {
		r := small
		r.Size = size
		for _, x := range []operation{ring.NewPush(r, 1), ring.NewPush(r, -1), ring.NewPush(r, 65536), ring.NewFront(r), ring.NewDrop(r, 0)} {
			checkOutcome(t, x, 0, 0, api.ErrArg)
			checkEnded(t, x, m)
		}
		x := ring.NewDrop(r, 5)
		checkOutcome(t, x, 0, 0, api.ErrArg)
		checkEnded(t, x, m)
	}
	if m.Count() != count {
		t.Error("of none an access")
	}
	for _, size := range []int{1, 4096} {
		r := small
		r.Size = size
		for _, x := range []operation{ring.NewPush(r, 1), ring.NewFront(r), ring.NewDrop(r, 0)} {
			checkOutcome(t, x, 0, 0, api.ErrBusy)
		}
	}
}

// P14.2, P14.3: operations that no function made.
func TestInvalid(t *testing.T) {
	m := filled(t)
	count := m.Count()
	for _, x := range []operation{(*ring.Push)(nil), &ring.Push{}, (*ring.Front)(nil), &ring.Front{}, (*ring.Drop)(nil), &ring.Drop{}} {
		checkOutcome(t, x, 0, 0, api.ErrNil)
		checkEnded(t, x, m)
	}
	if m.Count() != count {
		t.Error("of none an access")
	}
}

// P14.2: without a memory, what is loaded is 0, and no swap succeeds.
func TestNoMemory(t *testing.T) {
	for _, m := range []*cells.Mem{nil, {}} {
		push := ring.NewPush(small, 1)
		for range 50 {
			if push.Step(m) {
				t.Error("a push has ended")
			}
			checkOutcome(t, push, 0, 0, api.ErrBusy)
		}
		front := ring.NewFront(small)
		if n := run(front, m); n != 2 {
			t.Error("front:", n)
		}
		checkOutcome(t, front, 0, 0, api.ErrNone)
		drop := ring.NewDrop(small, 4)
		if n := run(drop, m); n != 2 {
			t.Error("drop:", n)
		}
		checkOutcome(t, drop, 0, 0, api.OK)

		// Where it has filled a slot of another memory, it ends without one, too.
		push = ring.NewPush(small, 1)
		checkSome(t, push, filled(t), load(1, 0), load(2, 0), swap(2, 0, full|1))
		if !push.Step(m) {
			t.Error("a push that has filled its slot ends")
		}
		checkOutcome(t, push, 0, 0, api.OK)
	}
}

// P14.2: an operation that is stepped in another memory continues there.
func TestOtherMemory(t *testing.T) {
	m, other := filled(t), mem(t, 3, 3, lap(1), lap(1)|full|8, 0)
	push := ring.NewPush(small, 6)
	checkSome(t, push, other, load(1, 3))
	checkSome(t, push, m, load(3, 0), missed(1, 0), load(1, 0))
	checkSome(t, push, other, load(2, lap(1)), missed(1, 3))
	checkSome(t, push, m, load(1, 0), load(2, 0), swap(2, 0, full|6))
	checkSteps(t, push, other, missed(1, 3))
	checkOutcome(t, push, 0, 0, api.OK)

	front := ring.NewFront(small)
	checkSome(t, front, m, load(0, 0))
	checkSteps(t, front, other, load(2, lap(1)))
	checkOutcome(t, front, 0, 0, api.ErrNone)
	front = ring.NewFront(small)
	checkSome(t, front, other, load(0, 3))
	checkSteps(t, front, m, load(3, 0))
	checkOutcome(t, front, 0, 3, api.ErrNone)
	drop := ring.NewDrop(small, 3)
	checkSome(t, drop, other, store(3, lap(1)|full|8, lap(2)))
	checkSteps(t, drop, m, store(0, 0, 4))
}

// Rings that are not valid but for their size have operations nevertheless, of cells that are there or not.
func TestOdd(t *testing.T) {
	m := mem(t, 0, 0, 0, 0)
	far := api.Ring{Head: -1, Tail: math.MinInt, Slots: math.MaxInt, Size: 2}
	push := ring.NewPush(far, 1)
	for range 3 {
		checkSome(t, push, m, load(math.MinInt, 0), load(math.MaxInt, 0), missed(math.MaxInt, 0), missed(math.MinInt, 0))
	}
	front := ring.NewFront(far)
	checkSteps(t, front, m, load(-1, 0), load(math.MaxInt, 0))
	checkOutcome(t, front, 0, 0, api.ErrNone)
	nowhere := api.Access{Kind: api.AccessStore, At: math.MinInt}
	drop := ring.NewDrop(far, 1)
	checkSteps(t, drop, m, nowhere, api.Access{Kind: api.AccessStore, At: -1})
	checkOutcome(t, drop, 0, 0, api.OK)
	checkWords(t, m, 0, 0, 0, 0)

	same := api.Ring{Head: 1, Tail: 1, Slots: 1, Size: 1}
	push = ring.NewPush(same, 1)
	checkSteps(t, push, m, load(1, 0), load(1, 0), swap(1, 0, full|1), missed(1, full|1))
	checkOutcome(t, push, 0, 0, api.OK)
	front = ring.NewFront(same)
	checkSteps(t, front, m, load(1, full|1), load(1, full|1))
	checkOutcome(t, front, 0, full|1, api.ErrNone)
}
