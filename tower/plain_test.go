package tower_test

import (
	"math"
	"testing"

	"coxswain/api"
	"coxswain/tower"
)

// script is numbers that look as if they were random.
type script uint64

func (s *script) next(n int) int {
	*s = *s*6364136223846793005 + 1442695040888963407
	return int(*s>>33) % n
}

// word is a word that names a node, or none, with any generation and mark, or with bits that no ref has.
func (s *script) word(size int) uint64 {
	w := uint64(s.next(size + 3))
	switch s.next(6) {
	case 0:
		return w | mark
	case 1:
		return w | 1<<16*uint64(s.next(9))
	case 2:
		return w | 1<<48*uint64(s.next(1<<16))
	case 3:
		return math.MaxUint64 - w
	}
	return w
}

// block is cells that a tower has side by side.
type block struct {
	from *int
	many int
}

// blocks are all of them; that of the nodes and that of the head come first.
func blocks(x *api.Tower) []block {
	l, size := &x.Limbo, x.Limbo.A.Free.Size
	return []block{
		{&x.Nodes, size * (4 + x.Height)}, {&x.Heads, x.Height},
		{&l.A.Free.Top, 1}, {&l.A.Free.Links, size}, {&l.A.Gens, size}, {&l.A.Worn, 1},
		{&l.E.At, 1}, {&l.E.Pins, l.E.Cores}, {&l.Tops, 3},
	}
}

// tower is one whose cells are all different, in any order, with gaps up to a width, and how many cells a memory has at least that has them.
func (s *script) tower(height, size, gap int) (api.Tower, int) {
	x := api.Tower{Height: height}
	x.Limbo.A.Free.Size, x.Limbo.A.Limit, x.Limbo.E.Cores = size, 1+s.next(9), 1+s.next(3)
	l, end := blocks(&x), 0
	for i := range l {
		j := i + s.next(len(l)-i)
		l[i], l[j] = l[j], l[i]
		*l[i].from = end + s.next(gap+1)
		end = *l[i].from + l[i].many
	}
	return x, end
}

// fits is which error a tower has, in words of the term: its numbers are in their ranges, and its cells are cells of the memory, none of them twice.
func fits(x api.Tower, n int) api.Errno {
	l, size := x.Limbo, x.Limbo.A.Free.Size
	switch {
	case n < 1 || n > 4096:
		return api.ErrRange
	case x.Height < 1 || x.Height > 4, size < 1 || size > 128, l.E.Cores < 1 || l.E.Cores > 64, l.A.Limit < 1 || l.A.Limit > 1<<32-1:
		return api.ErrArg
	case x.Nodes < 0 || x.Nodes > 4095, x.Heads < 0 || x.Heads > 4095:
		return api.ErrArg
	}
	has := make([]bool, n)
	for _, b := range blocks(&x) {
		for k := range b.many {
			at := *b.from + k
			if at < 0 || at >= n || has[at] {
				return api.ErrArg
			}
			has[at] = true
		}
	}
	return api.OK
}

func checkFits(t *testing.T, x api.Tower, n int) api.Errno {
	t.Helper()
	got := tower.Fits(x, n)
	if want := fits(x, n); got != want {
		t.Fatalf("%+v in %d cells: %v, want %v", x, n, got, want)
	}
	return got
}

// P15.1: which towers fit, packed tightly or not, with some numbers changed.
func TestFits(t *testing.T) {
	s, fitted := script(7), 0
	for range 60000 {
		x, n := s.tower(1+s.next(4), 1+s.next(4), s.next(3))
		if checkFits(t, x, n) != api.OK || checkFits(t, x, n-1) != api.ErrArg {
			t.Fatalf("%+v has %d cells", x, n)
		}
		l := blocks(&x)
		for range 1 + s.next(2) {
			b := l[s.next(len(l))]
			*b.from = s.next(n+3) - 1
		}
		if s.next(4) == 0 {
			x.Height += s.next(3) - 1
		}
		if s.next(4) == 0 {
			x.Limbo.A.Free.Size += s.next(3) - 1
		}
		if checkFits(t, x, n) == api.OK {
			fitted++
		}
	}
	if fitted < 1000 {
		t.Error("fitted:", fitted)
	}
}

// P15.1: each two blocks of cells, one of which begins where the other one ends, behind that, or ahead of it.
func TestFitsTwo(t *testing.T) {
	for height := 1; height <= 4; height++ {
		for i := range 9 {
			for j := range 9 {
				if i != j {
					checkFitsTwo(t, height, i, j)
				}
			}
		}
	}
}

func checkFitsTwo(t *testing.T, height, i, j int) {
	t.Helper()
	for _, c := range []struct {
		by   int
		want api.Errno
	}{{0, api.OK}, {1, api.OK}, {-1, api.ErrArg}} {
		s := script(height)
		x, n := s.tower(height, 3, 0)
		l := blocks(&x)
		*l[i].from = n + 100
		*l[j].from = n + 100 + l[i].many + c.by
		if got := checkFits(t, x, n+200); got != c.want {
			t.Errorf("%+v: %v", x, got)
		}
	}
}

// P15.1: numbers of all sizes, each of them in a tower that fits otherwise.
func TestFitsFar(t *testing.T) {
	numbers := []int{math.MinInt, math.MinInt + 1, -4096, -1, 0, 1, 2, 3, 4, 5, 64, 127, 128, 129, 4094, 4095, 4096, 4097, 1<<32 - 1, 1 << 32, math.MaxInt - 4096, math.MaxInt - 5, math.MaxInt}
	for _, n := range []int{math.MinInt, -1, 0, 1, 33, 34, 35, 4095, 4096, 4097, math.MaxInt} {
		checkFits(t, small, n)
		for _, v := range numbers {
			for k := range 13 {
				x := small
				l := []*int{&x.Height, &x.Limbo.A.Free.Size, &x.Limbo.A.Limit, &x.Limbo.E.Cores}
				for _, b := range blocks(&x) {
					l = append(l, b.from)
				}
				*l[k] = v
				checkFits(t, x, n)
			}
		}
	}
	for _, x := range unsound() {
		checkFits(t, x, 4096)
	}
	if tower.Fits(api.Tower{}, 0) != api.ErrRange || tower.Fits(api.Tower{}, 1) != api.ErrArg {
		t.Error("the range of the cells counts first")
	}
}

// P15.1: as many nodes, cores and levels as there may be, and one more.
func TestFitsGreatest(t *testing.T) {
	for _, size := range []int{1, 127, 128, 129} {
		for height := 1; height <= 5; height++ {
			for _, cores := range []int{1, 64, 65} {
				x := changed(func(x *api.Tower) { x.Height, x.Limbo.A.Free.Size, x.Limbo.E.Cores = height, size, cores })
				end := 0
				for _, b := range blocks(&x) {
					*b.from = end
					end += b.many
				}
				want := api.OK
				if size == 129 || height == 5 || cores == 65 {
					want = api.ErrArg
				}
				if got := checkFits(t, x, end); got != want {
					t.Errorf("size %d, height %d, %d cores: %v", size, height, cores, got)
				}
			}
		}
	}
}

// plain reads a tower's words by the rows of the chapter.
type plain struct {
	x     api.Tower
	words []uint64
}

func (p plain) held(at int) uint64 {
	if at < 0 || at >= len(p.words) {
		return 0
	}
	return p.words[at]
}

func (p plain) first(i int) int { return p.x.Nodes + i*(4+p.x.Height) }

func (p plain) next(i, l int) uint64 {
	if i < 0 {
		return p.held(p.x.Heads + l)
	}
	return p.held(p.first(i) + 4 + l)
}

func (p plain) level(l int) []int {
	var nodes []int
	for i := -1; len(nodes) < p.x.Limbo.A.Free.Size; {
		i = int(p.next(i, l)&0xffff) - 1
		if i < 0 || i >= p.x.Limbo.A.Free.Size {
			break
		}
		nodes = append(nodes, i)
	}
	return nodes
}

func (p plain) live() []int {
	var nodes []int
	for _, i := range p.level(0) {
		if p.next(i, 0)&mark == 0 {
			nodes = append(nodes, i)
		}
	}
	return nodes
}

func (p plain) node(i int) api.Node {
	at := p.first(i)
	n := api.Node{Key: p.held(at), Job: p.held(at + 1), High: p.held(at + 2), Hold: p.held(at + 3)}
	for l := range p.x.Height {
		n.Next = append(n.Next, p.next(i, l))
	}
	return n
}

// P15.3: nodes, levels and who lives in memories with all kinds of words in them, also where cells are missing or are used twice.
func TestPlain(t *testing.T) {
	s, lengths := script(15), map[int]int{}
	for range 20000 {
		size := 1 + s.next(5)
		x, n := s.tower(1+s.next(4), size, 1)
		if s.next(3) == 0 {
			x.Nodes, x.Heads = s.next(n+9), s.next(n+2)
		}
		m := mem(t, n, 0)
		for at := range n {
			m.Store(at, s.word(size))
		}
		p := plain{x, m.Words()}
		for l := range x.Height {
			want := p.level(l)
			checkLevel(t, x, l, m, want...)
			lengths[len(want)]++
		}
		checkLevel(t, x, x.Height, m)
		checkLive(t, x, m, p.live()...)
		for i := range size {
			checkNode(t, x, i, m, p.node(i), true)
		}
		checkNode(t, x, size, m, api.Node{}, false)
	}
	for many := range 6 {
		if lengths[many] < 100 {
			t.Errorf("%d levels of %d nodes", lengths[many], many)
		}
	}
}

// P15.4: the accesses of lays, of any numbers, in towers of all kinds.
func TestPlainLay(t *testing.T) {
	s, came := script(4), map[api.Errno]int{}
	for range 20000 {
		size := 1 + s.next(5)
		x, n := s.tower(1+s.next(4), size, 1)
		if s.next(20) == 0 {
			x.Height = 5 * s.next(2)
		}
		m := mem(t, n, 99)
		ref, key, job, height := s.word(size), s.word(9), s.next(1<<17)-1<<10, s.next(x.Height+3)-1
		err := refused(x, ref, job, height)
		came[err]++
		lay := tower.NewLay(x, ref, key, job, height)
		if err != api.OK {
			checkEnded(t, lay, m, 0, err)
			continue
		}
		at := plain{x: x}.first(int(ref&0xffff) - 1)
		checkSteps(t, lay, ref, m, store(at, 99, key), store(at+1, 99, uint64(job)), store(at+2, 99, uint64(height)), store(at+3, 99, 2))
	}
	for _, err := range []api.Errno{api.OK, api.ErrArg, api.ErrForm, api.ErrRange} {
		if came[err] < 200 {
			t.Errorf("%d lays with %v", came[err], err)
		}
	}
}

// refused is which error a lay is to have, by the bits of its ref.
func refused(x api.Tower, ref uint64, job, height int) api.Errno {
	i := int(ref & 0xffff)
	switch {
	case x.Height < 1 || x.Height > 4:
		return api.ErrArg
	case ref>>48&0x7fff != 0, i == 0 && ref&0xffffffff0000 != 0:
		return api.ErrForm
	case i == 0, i > x.Limbo.A.Free.Size, ref&mark != 0:
		return api.ErrRange
	case job < 0, job > 65534, height < 1, height > x.Height:
		return api.ErrRange
	}
	return api.OK
}
