package cells_test

import (
	"math"
	"slices"
	"testing"

	"coxswain/api"
	"coxswain/cells"
)

func mem(t *testing.T, n int) *cells.Mem {
	t.Helper()
	m, err := cells.New(n)
	if m == nil || err != api.OK {
		t.Fatalf("New(%d): %v %v", n, m, err)
	}
	return m
}

// filled is a memory of these words.
func filled(t *testing.T, words ...uint64) *cells.Mem {
	t.Helper()
	m := mem(t, len(words))
	for at, w := range words {
		m.Store(at, w)
	}
	return m
}

func checkWords(t *testing.T, m *cells.Mem, want ...uint64) {
	t.Helper()
	if got := m.Words(); !slices.Equal(got, want) {
		t.Errorf("words: %v, want %v", got, want)
	}
}

func checkLast(t *testing.T, m *cells.Mem, want api.Access) {
	t.Helper()
	if got := m.Last(); got != want {
		t.Errorf("last: %+v, want %+v", got, want)
	}
}

func checkCount(t *testing.T, m *cells.Mem, want int) {
	t.Helper()
	if got := m.Count(); got != want {
		t.Errorf("count: %d, want %d", got, want)
	}
}

// P2.1: how many cells there may be.
func TestNewRange(t *testing.T) {
	for _, n := range []int{math.MinInt, -4096, -1, 0, 4097, 1 << 32, math.MaxInt} {
		if m, err := cells.New(n); m != nil || err != api.ErrRange {
			t.Errorf("New(%d): %v %v", n, m, err)
		}
	}
	for _, n := range []int{1, 2, 3, 64, 4095, 4096} {
		m := mem(t, n)
		if m.Size() != n {
			t.Errorf("New(%d) has %d", n, m.Size())
		}
		checkCount(t, m, 0)
		checkLast(t, m, api.Access{})
		checkWords(t, m, make([]uint64, n)...)
	}
}

// P2.1: memories have nothing in common.
func TestNewApart(t *testing.T) {
	m, other := mem(t, 2), mem(t, 2)
	m.Store(1, 7)
	checkWords(t, m, 0, 7)
	checkWords(t, other, 0, 0)
	checkCount(t, other, 0)
	checkLast(t, other, api.Access{})
}

// P2.1, P2.2: each of the cells from the first to the last one is there, and is another one.
func TestEachCell(t *testing.T) {
	m := mem(t, 4096)
	var want []uint64
	for at := range 4096 {
		m.Store(at, uint64(at)+1)
		want = append(want, uint64(at)+1)
	}
	checkWords(t, m, want...)
	for at := range 4096 {
		if w := m.Load(at); w != want[at] {
			t.Fatalf("cell %d: %d", at, w)
		}
	}
}

// P2.2, P2.3: the accesses of the chapter's first example, one after the other, with what each one leaves as the last.
func TestAccesses(t *testing.T) {
	m := mem(t, 3)
	m.Store(1, 5)
	checkLast(t, m, api.Access{Kind: api.AccessStore, At: 1, Old: 0, New: 5, Held: true})
	if !m.CAS(1, 5, 7) {
		t.Error("a swap of the word that is there fails")
	}
	checkLast(t, m, api.Access{Kind: api.AccessCAS, At: 1, Old: 5, New: 7, Held: true})
	if m.CAS(1, 5, 9) {
		t.Error("a swap of another word holds")
	}
	checkLast(t, m, api.Access{Kind: api.AccessCAS, At: 1, Old: 7, New: 7})
	if w := m.Add(1, math.MaxUint64); w != 6 {
		t.Error("add:", w)
	}
	checkLast(t, m, api.Access{Kind: api.AccessAdd, At: 1, Old: 7, New: 6, Held: true})
	if w := m.Load(1); w != 6 {
		t.Error("load:", w)
	}
	checkLast(t, m, api.Access{Kind: api.AccessLoad, At: 1, Old: 6, New: 6})
	checkCount(t, m, 5)
	checkWords(t, m, 0, 6, 0)
}

// P2.2: stores of any word; what was there does not matter.
func TestStore(t *testing.T) {
	m := mem(t, 2)
	for _, w := range []uint64{1, math.MaxUint64, 1 << 63, 0, 0, 42} {
		m.Store(0, w)
		checkWords(t, m, w, 0)
		if got := m.Load(0); got != w {
			t.Errorf("stored %d, loaded %d", w, got)
		}
	}
}

// P2.2: a swap writes if the cell is the old word, in all of its bits, and else leaves it.
func TestCAS(t *testing.T) {
	rows := []struct {
		is, old, new uint64
		held         bool
	}{
		{0, 0, 1, true},
		{0, 1, 0, false},
		{7, 5, 9, false},
		{7, 9, 7, false},
		{math.MaxUint64, math.MaxUint64, 0, true},
		{math.MaxUint64, math.MaxUint64 - 1, 0, false},
		{5, 1<<63 | 5, 0, false},
		{1<<32 | 5, 5, 0, false},
	}
	for _, r := range rows {
		m := filled(t, 3, r.is, 4)
		want := api.Access{Kind: api.AccessCAS, At: 1, Old: r.is, New: r.is}
		if r.held {
			want.New, want.Held = r.new, true
		}
		if got := m.CAS(1, r.old, r.new); got != r.held {
			t.Errorf("%+v: %v", r, got)
		}
		checkLast(t, m, want)
		checkWords(t, m, 3, want.New, 4)
	}
}

// P2.2: sums wrap around at 2^64.
func TestAdd(t *testing.T) {
	rows := []struct{ is, n, sum uint64 }{
		{5, 2, 7},
		{5, 0, 5},
		{5, math.MaxUint64, 4},
		{0, math.MaxUint64, math.MaxUint64},
		{math.MaxUint64, 1, 0},
		{math.MaxUint64, math.MaxUint64, math.MaxUint64 - 1},
		{1 << 63, 1 << 63, 0},
	}
	for _, r := range rows {
		m := filled(t, 3, r.is, 4)
		if got := m.Add(1, r.n); got != r.sum {
			t.Errorf("%+v: %d", r, got)
		}
		checkLast(t, m, api.Access{Kind: api.AccessAdd, At: 1, Old: r.is, New: r.sum, Held: true})
		checkWords(t, m, 3, r.sum, 4)
	}
}

// P2.3: what writes the word that is there has written all the same.
func TestHeldWithoutChange(t *testing.T) {
	m := filled(t, 6)
	m.Store(0, 6)
	checkLast(t, m, api.Access{Kind: api.AccessStore, Old: 6, New: 6, Held: true})
	if !m.CAS(0, 6, 6) {
		t.Error("a swap from 6 to 6 fails")
	}
	checkLast(t, m, api.Access{Kind: api.AccessCAS, Old: 6, New: 6, Held: true})
	if w := m.Add(0, 0); w != 6 {
		t.Error("add:", w)
	}
	checkLast(t, m, api.Access{Kind: api.AccessAdd, Old: 6, New: 6, Held: true})
	checkCount(t, m, 4)
}

// P2.2, P2.3: accesses of no cell do nothing, return zeros, never hold, and are counted; the last one tells the number as given.
func TestNoCell(t *testing.T) {
	for _, at := range []int{3, 4, 4095, 4096, -1, -3, 1 << 32, math.MaxInt, math.MinInt} {
		m := filled(t, 1, 2, 3)
		m.Store(at, 4)
		checkLast(t, m, api.Access{Kind: api.AccessStore, At: at})
		if w := m.Load(at); w != 0 {
			t.Errorf("load of %d: %d", at, w)
		}
		checkLast(t, m, api.Access{Kind: api.AccessLoad, At: at})
		if w := m.Add(at, 5); w != 0 {
			t.Errorf("add of %d: %d", at, w)
		}
		checkLast(t, m, api.Access{Kind: api.AccessAdd, At: at})
		for _, old := range []uint64{0, 4, 5} {
			if m.CAS(at, old, 9) {
				t.Errorf("a swap of %d holds", at)
			}
			checkLast(t, m, api.Access{Kind: api.AccessCAS, At: at})
		}
		if m.CAS(at, 0, 0) {
			t.Errorf("a swap of %d from 0 to 0 holds", at)
		}
		checkCount(t, m, 10)
		checkWords(t, m, 1, 2, 3)
	}
}

// P2.3: to ask how things are is not an access.
func TestLooks(t *testing.T) {
	m := filled(t, 8, 9)
	want := api.Access{Kind: api.AccessStore, At: 1, New: 9, Held: true}
	for range 3 {
		checkLast(t, m, want)
		checkCount(t, m, 2)
		checkWords(t, m, 8, 9)
		m.Size()
		m.Copy()
	}
	checkLast(t, m, want)
	checkCount(t, m, 2)
}

// P2.3: the words that are returned are the caller's own, with all behind them.
func TestWordsAreNew(t *testing.T) {
	m := filled(t, 1, 2, 3)
	l, other := m.Words(), m.Words()
	for i := range l {
		l[i] = 77
	}
	l = append(l[:1], 88, 99)
	clear(l[:cap(l)])
	checkWords(t, m, 1, 2, 3)
	if !slices.Equal(other, []uint64{1, 2, 3}) {
		t.Error("words that were returned before:", other)
	}
	m.Store(0, 5)
	if other[0] != 1 {
		t.Error("words that were returned follow the memory:", other)
	}
}

// P2.4: a copy is like its memory in everything, and goes its own way.
func TestCopy(t *testing.T) {
	m := filled(t, 4, 0)
	m.CAS(0, 9, 1)
	c := m.Copy()
	checkWords(t, c, 4, 0)
	checkLast(t, c, api.Access{Kind: api.AccessCAS, Old: 4, New: 4})
	checkCount(t, c, 3)
	checkCount(t, m, 3)
	c.Store(1, 8)
	m.Add(0, 1)
	m.Load(7)
	checkWords(t, m, 5, 0)
	checkLast(t, m, api.Access{Kind: api.AccessLoad, At: 7})
	checkCount(t, m, 5)
	checkWords(t, c, 4, 8)
	checkLast(t, c, api.Access{Kind: api.AccessStore, At: 1, New: 8, Held: true})
	checkCount(t, c, 4)
	d := c.Copy()
	c.Store(0, 1)
	checkWords(t, d, 4, 8)
	if d.Size() != 2 || d.Load(2) != 0 || d.CAS(2, 0, 1) {
		t.Error("a copy has more cells than its memory")
	}
}

// P2.4: a copy of a memory without accesses has none; one of the greatest memory has all cells.
func TestCopyEdges(t *testing.T) {
	c := mem(t, 1).Copy()
	checkWords(t, c, 0)
	checkLast(t, c, api.Access{})
	checkCount(t, c, 0)
	m := mem(t, 4096)
	m.Store(4095, 3)
	c = m.Copy()
	if c.Size() != 4096 || c.Load(4095) != 3 {
		t.Error("the last cell of a copy:", c.Size(), c.Load(4095))
	}
}

// A memory that nobody made has no cells and no accesses, and its copy is another such one.
func TestInvalid(t *testing.T) {
	var none *cells.Mem
	for _, m := range []*cells.Mem{none, {}, new(cells.Mem), none.Copy(), (&cells.Mem{}).Copy()} {
		m.Store(0, 1)
		if m.Load(0) != 0 || m.CAS(0, 0, 1) || m.CAS(0, 0, 0) || m.Add(0, 5) != 0 || m.Load(-1) != 0 {
			t.Error("a cell of no memory")
		}
		if m.Size() != 0 || len(m.Words()) != 0 {
			t.Error("cells:", m.Size(), m.Words())
		}
		checkCount(t, m, 0)
		checkLast(t, m, api.Access{})
	}
}

// mixer makes the same numbers in each run.
type mixer uint64

func (x *mixer) below(n int) int {
	*x ^= *x << 13
	*x ^= *x >> 7
	*x ^= *x << 17
	return int(uint64(*x) % uint64(n))
}

// word is a small one mostly, so that swaps hold often, and now and then one close to the wrap-round.
func (x *mixer) word() uint64 {
	if x.below(4) == 0 {
		return -uint64(x.below(3))
	}
	return uint64(x.below(3))
}

// mixed makes an access of any kind, of a cell or of none, and returns what it should leave as the last one, by the words as they were.
func mixed(t *testing.T, x *mixer, m *cells.Mem, is []uint64) api.Access {
	t.Helper()
	a := api.Access{Kind: 1 + x.below(4), At: x.below(len(is)+2) - 1}
	given := x.word()
	old := x.word()
	there := a.At >= 0 && a.At < len(is)
	if there {
		a.Old, a.New = is[a.At], is[a.At]
	}
	a.Held = there && (a.Kind == api.AccessStore || a.Kind == api.AccessAdd || a.Kind == api.AccessCAS && a.Old == old)
	if a.Held && a.Kind == api.AccessAdd {
		a.New += given
	} else if a.Held {
		a.New = given
	}
	ok := true
	switch a.Kind {
	case api.AccessLoad:
		ok = m.Load(a.At) == a.Old
	case api.AccessStore:
		m.Store(a.At, given)
	case api.AccessCAS:
		ok = m.CAS(a.At, old, given) == a.Held
	case api.AccessAdd:
		ok = m.Add(a.At, given) == a.New
	}
	if !ok {
		t.Errorf("what %+v returned", a)
	}
	return a
}

// P2.5: an access changes its own cell alone, and only if it held; and to store what those that held wrote, in their order, leads to the same words.
func TestReplay(t *testing.T) {
	x := mixer(88172645463325252)
	held := map[int]int{}
	for _, n := range []int{1, 2, 5, 30} {
		m, again := mem(t, n), mem(t, n)
		for i := range 3000 {
			before := m.Words()
			want := mixed(t, &x, m, before)
			checkLast(t, m, want)
			checkCount(t, m, i+1)
			if want.Held {
				held[want.Kind]++
				before[want.At] = want.New
				again.Store(m.Last().At, m.Last().New)
			}
			checkWords(t, m, before...)
			checkWords(t, again, before...)
			if t.Failed() {
				t.Fatalf("at access %d of %d cells", i, n)
			}
		}
	}
	if len(held) != 3 || held[api.AccessCAS] < 100 {
		t.Error("what held:", held)
	}
}
