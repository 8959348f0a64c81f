package find_test

import (
	"iter"
	"math"
	"slices"
	"testing"

	"coxswain/api"
	"coxswain/cells"
	"coxswain/find"
)

// script is numbers that look as if they were random.
type script uint64

func (s *script) next(n int) int {
	*s = *s*6364136223846793005 + 1442695040888963407
	return int(*s>>33) % n
}

// word is a word that names a node, or none, with any generation and mark, or with bits that no ref has.
func (s *script) word(size int) uint64 {
	w := uint64(s.next(size + 2))
	switch s.next(12) {
	case 0, 1:
		return w | mark
	case 2, 3:
		return w | 1<<16*uint64(s.next(9))
	case 4:
		return w | 1<<48*uint64(s.next(1<<16))
	case 5:
		return math.MaxUint64 - w
	}
	return w
}

// plain is the chapter's rows as a plain program that stops behind each access.
type plain struct {
	x    api.Tower
	m    *cells.Mem
	key  uint64
	by   uint64
	stop func()
}

func (p *plain) next(i, l int) int {
	if i < 0 {
		return p.x.Heads + l
	}
	return p.x.Nodes + i*(4+p.x.Height) + 4 + l
}

func (p *plain) load(at int, by uint64) uint64 {
	w := p.m.Load(at)
	p.by = by
	p.stop()
	return w
}

// read is what a word is read as: a node, or -1.
func (p *plain) read(w uint64) int {
	if i := int(w&0xffff) - 1; i < p.x.Limbo.A.Free.Size {
		return i
	}
	return -1
}

func (p *plain) find() found {
	for {
		if f, ended := p.try(); ended {
			return f
		}
	}
}

// try begins at the head, and ends where it is to begin anew.
func (p *plain) try() (found, bool) {
	f := found{make([]int, p.x.Height), make([]uint64, p.x.Height), make([]uint64, p.x.Height)}
	pred, known := -1, uint64(0)
	for l := p.x.Height - 1; l >= 0; l-- {
		cur := p.load(p.next(pred, l), known)
		if cur >= mark {
			return found{}, false
		}
		for p.read(cur) >= 0 {
			i := p.read(cur)
			w := p.load(p.next(i, l), cur)
			if w >= mark {
				held := p.m.CAS(p.next(pred, l), cur, w-mark)
				p.by = known
				p.stop()
				if !held {
					return found{}, false
				}
				cur = w - mark
				continue
			}
			if p.load(p.x.Nodes+i*(4+p.x.Height), cur) >= p.key {
				break
			}
			pred, known, cur = i, cur, w
		}
		f.preds[l], f.succs[l], f.known[l] = pred, cur, known
	}
	return f, true
}

// stopped is what a plain program that is given up ends with.
type stopped struct{}

// steps yields behind each access of the plain program, which leaves what it has found.
func (p *plain) steps(f *found) iter.Seq[struct{}] {
	return func(yield func(struct{}) bool) {
		defer func() {
			if r := recover(); r != nil && r != (stopped{}) {
				panic(r)
			}
		}()
		p.stop = func() {
			if !yield(struct{}{}) {
				panic(stopped{})
			}
		}
		*f = p.find()
	}
}

// checkPlain has a Find and the plain program go on side by side, each in a memory of its own, into both of which others write now and then. It returns how many steps there were, and how many of these began at the top, 0 if it did not come to an end.
func checkPlain(t *testing.T, p *plain, others func(...*cells.Mem)) (steps, begun int) {
	t.Helper()
	m, f, x := p.m.Copy(), found{}, find.NewFind(p.x, p.key)
	checkCame(t, x, 0, api.ErrBusy, f)
	next, stop := iter.Pull(p.steps(&f))
	defer stop()
	_, more := next()
	for n := 0; more && n < 150; n++ {
		if m.Count() != p.m.Count()-1 {
			t.Fatal("a step is one access")
		}
		ended := x.Step(m)
		if m.Last() != p.m.Last() || m.Count() != p.m.Count() || !slices.Equal(m.Words(), p.m.Words()) {
			t.Fatalf("%+v: step %d: %+v, want %+v", p, n, m.Last(), p.m.Last())
		}
		if x.By() != p.by {
			t.Fatalf("%+v: step %d: by %x, want %x", p, n, x.By(), p.by)
		}
		if m.Last().At == p.next(-1, p.x.Height-1) && m.Last().Kind == api.AccessLoad {
			begun++
		}
		others(m, p.m)
		if _, more = next(); ended == more {
			t.Fatalf("%+v: step %d: ended %v", p, n, ended)
		}
		if more {
			checkCame(t, x, x.By(), api.ErrBusy, found{})
		}
		steps++
	}
	if more {
		return steps, 0
	}
	checkEnded(t, x, m, p.by, api.OK, f)
	return steps, begun
}

// place is where a memory has a tower of this kind, its cells in any place, now and then behind the last one or twice.
func (s *script) place() (api.Tower, int) {
	x := api.Tower{Height: 1 + s.next(4)}
	x.Limbo.A.Free.Size = 1 + s.next(6)
	x.Nodes = x.Height + s.next(3)
	n := x.Nodes + x.Limbo.A.Free.Size*(4+x.Height)
	switch s.next(8) {
	case 0:
		n = 1 + s.next(n)
	case 1:
		x.Heads = s.next(n)
	case 2:
		x.Nodes, x.Heads = s.next(n), s.next(n)
	}
	return x, n
}

// fill writes words of all kinds; most links lead on to nodes of greater numbers, whose keys are greater, so that a search gets far.
func (s *script) fill(x api.Tower, m *cells.Mem) {
	size := x.Limbo.A.Free.Size
	for at := range m.Size() {
		m.Store(at, s.word(size))
	}
	p := plain{x: x}
	for i := -1; i < size; i++ {
		for l := range x.Height {
			if s.next(8) > 0 {
				m.Store(p.next(i, l), uint64(min(i+2+s.next(2)*s.next(2), size))|mark*uint64(s.next(5)/4*min(i+1, 1)))
			}
		}
		if i >= 0 && s.next(8) > 0 {
			m.Store(x.Nodes+i*(4+x.Height), uint64(10*i))
		}
	}
}

// P16.1, P16.2: each access of the chapter's rows, by which ref it is made, and what they come to, in memories with all kinds of words in them, while others write there.
func TestPlain(t *testing.T) {
	s, lengths, begins := script(16), map[int]int{}, map[int]int{}
	for range 10000 {
		x, n := s.place()
		m := mem(t, n)
		s.fill(x, m)
		often := s.next(3) * 7
		others := func(l ...*cells.Mem) {
			if often == 0 || s.next(often) > 0 {
				return
			}
			at, w := s.next(n), s.word(x.Limbo.A.Free.Size)
			for _, m := range l {
				m.Store(at, w)
			}
		}
		steps, begun := checkPlain(t, &plain{x: x, m: m, key: uint64(s.next(70))}, others)
		lengths[min(steps/8, 5)]++
		begins[min(begun, 4)]++
	}
	for n := range 5 {
		if lengths[n] < 50 || begins[n] < 50 {
			t.Errorf("%d of some %d steps, %d that began %d times", lengths[n], 8*n, begins[n], n)
		}
	}
}
