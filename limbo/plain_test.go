package limbo_test

import (
	"iter"
	"math"
	"slices"
	"testing"

	"coxswain/api"
	"coxswain/cells"
	"coxswain/limbo"
)

// plain is the chapter's operations, and those of the chapters that it names, as plain programs that stop behind each access.
type plain struct {
	l     api.Limbo
	m     *cells.Mem
	stop  func()
	index int
	core  int
	own   int
}

func (p plain) load(at int) uint64 {
	w := p.m.Load(at)
	p.stop()
	return w
}

func (p plain) store(at int, w uint64) {
	p.m.Store(at, w)
	p.stop()
}

func (p plain) swap(at int, old, new uint64) bool {
	held := p.m.CAS(at, old, new)
	p.stop()
	return held
}

// read is what a word is read as: an index, or -1.
func (p plain) read(w uint64) int {
	if i := int(w&0xffff) - 1; i < p.l.A.Free.Size {
		return i
	}
	return -1
}

// following is the word of the top with an index, or none, that comes after another one.
func following(top uint64, i int) uint64 { return (top>>16+1)<<16 | uint64(i+1) }

func (p plain) push(top, i int) {
	for {
		w := p.load(top)
		p.store(p.l.A.Free.Links+i, uint64(p.read(w)+1))
		if p.swap(top, w, following(w, i)) {
			return
		}
	}
}

func (p plain) retire() (int, api.Errno) {
	if p.index < 0 || p.index >= p.l.A.Free.Size {
		return 0, api.ErrRange
	}
	e := p.load(p.l.E.At) << 32 >> 32
	p.push(p.l.Tops+int(e%3), p.index)
	return 0, api.OK
}

func (p plain) free(i int) {
	g := p.load(p.l.A.Gens + i)
	if int(g<<32>>32) >= p.l.A.Limit {
		p.m.Add(p.l.A.Worn, 1)
		p.stop()
		return
	}
	p.store(p.l.A.Gens+i, g+1)
	p.push(p.l.A.Free.Top, i)
}

func (p plain) advance() bool {
	w := p.load(p.l.E.At)
	next := w<<32>>32 + 1
	if next-1 != uint64(p.own) {
		return false
	}
	for c := range p.l.E.Cores {
		if c == p.core {
			continue
		}
		if pin := p.load(p.l.E.Pins + c); pin != 0 && pin != next {
			return false
		}
	}
	return p.swap(p.l.E.At, w, next)
}

func (p plain) collect() (int, api.Errno) {
	if p.core < 0 || p.core >= p.l.E.Cores || p.own < 0 {
		return 0, api.ErrRange
	}
	if !p.advance() {
		return 0, api.ErrBusy
	}
	top := p.l.Tops + (p.own+2)%3
	i := -1
	for {
		w := p.load(top)
		if i = p.read(w); i < 0 {
			return 0, api.OK
		}
		if p.swap(top, w, following(w, -1)) {
			break
		}
	}
	many := 0
	for i >= 0 && many < p.l.A.Free.Size {
		next := p.read(p.load(p.l.A.Free.Links + i))
		p.free(i)
		i = next
		many++
	}
	return many, api.OK
}

// stopped is what a plain program that is given up ends with.
type stopped struct{}

// steps yields behind each access of a plain program, which leaves what it came to.
func (p plain) steps(program func(plain) (int, api.Errno), many *int, err *api.Errno) iter.Seq[struct{}] {
	return func(yield func(struct{}) bool) {
		defer func() {
			if r := recover(); r != nil && r != (stopped{}) {
				panic(r)
			}
		}()
		p.stop = func() {
			if !yield(struct{}{}) {
				panic(stopped{})
			}
		}
		*many, *err = program(p)
	}
}

// checkPlain has an operation and a plain program go on side by side, each in a memory of its own, into both of which others write now and then.
func checkPlain(t *testing.T, x operation, program func(plain) (int, api.Errno), p plain, others func(...*cells.Mem)) {
	t.Helper()
	m, many, err := p.m.Copy(), 0, api.OK
	next, stop := iter.Pull(p.steps(program, &many, &err))
	defer stop()
	_, more := next()
	for n := 0; more && n < 300; n++ {
		checkOutcome(t, x, 0, api.ErrBusy)
		ended := x.Step(m)
		if m.Last() != p.m.Last() || m.Count() != p.m.Count() || !slices.Equal(m.Words(), p.m.Words()) {
			t.Fatalf("%+v: step %d: %+v, want %+v", p, n, m.Last(), p.m.Last())
		}
		others(m, p.m)
		if _, more = next(); ended == more {
			t.Fatalf("%+v: step %d: ended %v", p, n, ended)
		}
	}
	if !more {
		checkOutcome(t, x, many, err)
		checkEnded(t, x, m)
	}
}

// script is numbers that look as if they were random.
type script uint64

func (s *script) next(n int) int {
	*s = *s*6364136223846793005 + 1442695040888963407
	return int(*s>>33) % n
}

// word is a word that has some meaning or other: an index with a tag, a generation, a pin or an epoch, also beyond 2^32.
func (s *script) word() uint64 {
	w := uint64(s.next(6))
	switch s.next(8) {
	case 0:
		return w | 1<<16*uint64(s.next(9))
	case 1:
		return w | 1<<32*uint64(s.next(3))
	case 2:
		return math.MaxUint64 - w
	case 3:
		return math.MaxUint32 - w
	}
	return w
}

// limbo is one that fits, or now and then one whose parts lie anywhere.
func (s *script) limbo() api.Limbo {
	l, odd := small, s.next(4) == 0
	l.A.Limit = 1 + s.next(9)
	l.A.Free.Size, l.E.Cores = 1+s.next(3), 1+s.next(2)
	if odd {
		for _, at := range []*int{&l.A.Free.Top, &l.A.Free.Links, &l.A.Gens, &l.A.Worn, &l.E.At, &l.E.Pins, &l.Tops} {
			if s.next(3) == 0 {
				*at = s.next(18) - 2
			}
		}
		l.A.Free.Size, l.E.Cores, l.A.Limit = s.next(6)-1, s.next(5)-1, s.next(12)-1
	}
	return l
}

// P13.2: each access of the chapter's rows, and what they come to, in memories with all kinds of words in them, while others write there.
func TestPlain(t *testing.T) {
	s, freed := script(13), map[int]int{}
	for n := range 40000 {
		l := s.limbo()
		m := mem(t, make([]uint64, 14)...)
		for at := range 14 {
			m.Store(at, s.word())
		}
		often := s.next(3) * 12
		others := func(l ...*cells.Mem) {
			if often == 0 || s.next(often) > 0 {
				return
			}
			at, w := s.next(14), s.word()
			for _, m := range l {
				m.Store(at, w)
			}
		}
		p := plain{l: l, m: m, index: s.next(5) - 1, core: s.next(4) - 1, own: s.next(7) - 1}
		if n%3 == 0 {
			checkPlain(t, limbo.NewRetire(l, p.index), plain.retire, p, others)
			continue
		}
		if s.next(3) > 0 { // so that most advances are let on
			m.Store(l.E.At, uint64(max(p.own, 0)))
			for c := range l.E.Cores {
				m.Store(l.E.Pins+c, uint64(s.next(2)*(p.own+1)))
			}
		}
		x := limbo.NewCollect(l, p.core, p.own)
		checkPlain(t, x, plain.collect, p, others)
		many, _ := x.Many()
		freed[many]++
	}
	for many := range 4 {
		if freed[many] < 100 {
			t.Errorf("%d collects of %d", freed[many], many)
		}
	}
}
