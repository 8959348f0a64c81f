package ring_test

import (
	"iter"
	"math"
	"slices"
	"testing"

	"coxswain/api"
	"coxswain/cells"
	"coxswain/ring"
)

// plain is the chapter's operations as plain programs that stop behind each access.
type plain struct {
	r     api.Ring
	m     *cells.Mem
	stop  func()
	value int
	h     uint64
}

func (p plain) load(at int) uint64 {
	w := p.m.Load(at)
	p.stop()
	return w
}

func (p plain) store(at int, w uint64) {
	p.m.Store(at, w)
	p.stop()
}

func (p plain) swap(at int, old, new uint64) bool {
	held := p.m.CAS(at, old, new)
	p.stop()
	return held
}

// slot is the cell of a number's slot.
func (p plain) slot(t uint64) int { return p.r.Slots + int(t%uint64(p.r.Size)) }

// lap is that of a number, shifted to where a word has it.
func (p plain) lap(t uint64) uint64 { return t / uint64(p.r.Size) << 32 }

func isFull(w uint64) bool { return w>>16%2 == 1 }

func sameLap(w, v uint64) bool { return w>>32 == v>>32 }

func (p plain) sized() bool { return p.r.Size >= 1 && p.r.Size <= 4096 }

func (p plain) push() (int, api.Errno) {
	switch {
	case !p.sized():
		return 0, api.ErrArg
	case p.value < 0 || p.value > 65535:
		return 0, api.ErrRange
	}
	for {
		t := p.load(p.r.Tail)
		w := p.load(p.slot(t))
		switch lap := p.lap(t); {
		case !isFull(w) && sameLap(w, lap):
			if p.swap(p.slot(t), w, lap+1<<16+uint64(p.value)) {
				p.swap(p.r.Tail, t, t+1)
				return 0, api.OK
			}
		case isFull(w) && sameLap(w+1<<32, lap):
			return 0, api.ErrFull
		}
		p.swap(p.r.Tail, t, t+1)
	}
}

func (p plain) front() (int, api.Errno) {
	if !p.sized() {
		return 0, api.ErrArg
	}
	h := p.load(p.r.Head)
	w := p.load(p.slot(h))
	if isFull(w) && sameLap(w, p.lap(h)) {
		return int(w & 65535), api.OK
	}
	return 0, api.ErrNone
}

func (p plain) drop() (int, api.Errno) {
	if !p.sized() {
		return 0, api.ErrArg
	}
	p.store(p.slot(p.h), p.lap(p.h)+1<<32)
	p.store(p.r.Head, p.h+1)
	return 0, api.OK
}

// stopped is what a plain program that is given up ends with.
type stopped struct{}

// steps yields behind each access of a plain program, which leaves what it came to.
func (p plain) steps(program func(plain) (int, api.Errno), value *int, err *api.Errno) iter.Seq[struct{}] {
	return func(yield func(struct{}) bool) {
		defer func() {
			if r := recover(); r != nil && r != (stopped{}) {
				panic(r)
			}
		}()
		p.stop = func() {
			if !yield(struct{}{}) {
				panic(stopped{})
			}
		}
		*value, *err = program(p)
	}
}

// checkPlain has an operation and a plain program go on side by side, each in a memory of its own, into both of which others write now and then. It returns what they came to, if they ended.
func checkPlain(t *testing.T, x operation, program func(plain) (int, api.Errno), p plain, others func(...*cells.Mem)) api.Errno {
	t.Helper()
	m, value, err := p.m.Copy(), 0, api.OK
	next, stop := iter.Pull(p.steps(program, &value, &err))
	defer stop()
	_, more := next()
	for n := 0; more && n < 100; n++ {
		if v, _, err := outcome(x); v != 0 || err != api.ErrBusy {
			t.Fatalf("%+v: step %d: %d %v", p, n, v, err)
		}
		ended := x.Step(m)
		if m.Last() != p.m.Last() || m.Count() != p.m.Count() || !slices.Equal(m.Words(), p.m.Words()) {
			t.Fatalf("%+v: step %d: %+v, want %+v", p, n, m.Last(), p.m.Last())
		}
		others(m, p.m)
		if _, more = next(); ended == more {
			t.Fatalf("%+v: step %d: ended %v", p, n, ended)
		}
	}
	if more {
		return api.ErrBusy
	}
	if v, _, e := outcome(x); v != value || e != err {
		t.Fatalf("%+v: %d %v, want %d %v", p, v, e, value, err)
	}
	checkEnded(t, x, m)
	return err
}

// number is a head's or a tail's, near 0, near where laps go round, or near the last one.
func (s *script) number(size int) uint64 {
	n := uint64(s.next(3 * max(1, min(size, 5))))
	switch s.next(6) {
	case 0:
		return uint64(size)<<32 - n
	case 1:
		return math.MaxUint64 - n
	case 2:
		return uint64(size)<<32 + n
	}
	return n
}

// slot is the word of a slot with about the lap of a number, and sometimes with spare bits.
func (s *script) slot(n uint64, size int) uint64 {
	w := uint64(s.next(2)) * (full | uint64(s.next(1<<16)))
	if s.next(4) == 0 {
		w |= uint64(s.next(1<<15))<<17 | uint64(s.next(3))
	}
	if size < 1 {
		return w
	}
	return w | lap(n/uint64(size)+uint64(s.next(6)/2)-1)
}

// ring is one that fits, or now and then one whose parts lie anywhere.
func (s *script) ring() api.Ring {
	r := api.Ring{Head: 0, Tail: 1, Slots: 2, Size: 1 + s.next(4)}
	if s.next(4) == 0 {
		r = api.Ring{Head: s.next(12) - 2, Tail: s.next(12) - 2, Slots: s.next(12) - 2, Size: s.next(8) - 1}
	}
	return r
}

// P14.2: each access of the chapter's rows, and what they come to, in memories with all kinds of words in them, while others write there.
func TestPlain(t *testing.T) {
	s, ends := script(14), map[api.Errno]int{}
	for n := range 30000 {
		r := s.ring()
		near := s.number(r.Size)
		word := func() uint64 {
			if s.next(4) == 0 {
				return near + uint64(s.next(3))
			}
			return s.slot(near, r.Size)
		}
		m := mem(t, word(), word(), word(), word(), word(), word(), word(), word())
		if s.next(8) > 0 {
			m.Store(r.Head, near)
			m.Store(r.Tail, near)
		}
		often := s.next(3) * 4
		others := func(l ...*cells.Mem) {
			if often == 0 || s.next(often) > 0 {
				return
			}
			at, w := s.next(8), word()
			for _, m := range l {
				m.Store(at, w)
			}
		}
		p := plain{r: r, m: m, value: s.next(1<<16+9) - 4, h: near}
		switch n % 3 {
		case 0:
			ends[checkPlain(t, ring.NewPush(r, p.value), plain.push, p, others)]++
		case 1:
			ends[checkPlain(t, ring.NewFront(r), plain.front, p, others)]++
		default:
			ends[checkPlain(t, ring.NewDrop(r, p.h), plain.drop, p, others)]++
		}
		if t.Failed() {
			return
		}
	}
	for _, err := range []api.Errno{api.OK, api.ErrArg, api.ErrFull, api.ErrBusy, api.ErrNone} {
		if ends[err] < 100 {
			t.Errorf("%d ends with %v", ends[err], err)
		}
	}
}
