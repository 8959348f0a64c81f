package ring_test

import (
	"fmt"
	"slices"
	"testing"

	"coxswain/api"
	"coxswain/cells"
	"coxswain/fifo"
	"coxswain/linear"
	"coxswain/ring"
)

// core is who makes operations: the operation in which it is, if any, and what is known of that.
type core struct {
	doing operation
	id    int          // of its call
	value int          // what it pushes
	done  []api.Access // the steps of the operation
	told  bool         // whether its last front has told a value that it has not dropped since
	at    uint64       // the number of that value
}

// world is a ring onto which all cores push, and from which the core 0 takes; each step is held against the theorems.
type world struct {
	r       api.Ring
	m       *cells.Mem
	cores   []core
	queue   []uint64 // what a queue of that room holds
	pushed  uint64   // the number of the next value that comes in
	dropped uint64   // the number of the first value that has not been dropped
	calls   int
	history []api.Event // of those who ask for it
	keeps   bool
}

// newWorld has a ring without values, which lies amid other cells and has gone round as often as its first number says.
func newWorld(t *testing.T, size, cores int, first uint64) *world {
	t.Helper()
	r := api.Ring{Head: size + 3, Tail: 1, Slots: 2, Size: size}
	m, err := cells.New(size + 5)
	if err != api.OK || ring.Fits(r, m.Size()) != api.OK {
		t.Fatal("world:", err)
	}
	ring.Fill(r, m)
	if first > 0 {
		m.Store(r.Head, first)
		m.Store(r.Tail, first)
	}
	for i := range uint64(size) {
		n := first + i
		if first > 0 {
			m.Store(r.Slots+int(n%uint64(size)), lap(n/uint64(size)))
		}
	}
	return &world{r: r, m: m, cores: make([]core, cores), pushed: first, dropped: first}
}

// copied goes on by itself, so that one step can be made in more than one way.
func (w *world) copied() *world {
	other := *w
	other.m, other.cores, other.queue = w.m.Copy(), slices.Clone(w.cores), slices.Clone(w.queue)
	other.history = slices.Clip(w.history)
	for i := range other.cores {
		c := &other.cores[i]
		c.doing, c.done = again(c.doing), slices.Clip(c.done)
	}
	return &other
}

// again is an operation that is as far as another one.
func again(x operation) operation {
	switch x := x.(type) {
	case *ring.Push:
		y := *x
		return &y
	case *ring.Front:
		y := *x
		return &y
	case *ring.Drop:
		y := *x
		return &y
	}
	return nil
}

// begin has a core begin an operation of a kind (p: push, t: take, which is a front and then, if that told a value, a drop).
func (w *world) begin(at int, kind byte, value int) {
	c := &w.cores[at]
	c.done = nil
	w.calls++
	c.id, c.value = w.calls, value
	op := api.Op{}
	switch {
	case kind == 'p':
		c.doing, op = ring.NewPush(w.r, value), api.Op{Kind: api.OpPush, W: uint64(value)}
	case c.told:
		c.doing, op = ring.NewDrop(w.r, c.at), api.Op{Kind: api.OpDrop}
		c.told = false
	default:
		c.doing, op = ring.NewFront(w.r), api.Op{Kind: api.OpFront}
	}
	if w.keeps {
		w.history = append(w.history, api.Event{ID: c.id, Op: op})
	}
}

// step makes the next step of a core, and reports whether its operation has ended with it.
func (w *world) step(t *testing.T, at int) bool {
	t.Helper()
	c := &w.cores[at]
	count := w.m.Count()
	ended := c.doing.Step(w.m)
	if w.m.Count() != count+1 {
		t.Fatal("a step is one access")
	}
	last := w.m.Last()
	c.done = append(c.done, last)
	w.effect(t, c, last, ended)
	if ended {
		w.end(t, c)
	}
	w.check(t)
	return ended
}

// effect has a queue do what an operation does, at the step at which it is to take effect (P14.4).
func (w *world) effect(t *testing.T, c *core, last api.Access, ended bool) {
	t.Helper()
	slot := last.At >= w.r.Slots && last.At < w.r.Slots+w.r.Size
	value, _, err := outcome(c.doing)
	switch c.doing.(type) {
	case *ring.Push:
		if slot && last.Held {
			w.answers(t, api.Op{Kind: api.OpPush, W: uint64(c.value)}, api.Ans{})
			w.pushed++
		}
		if ended && err != api.OK {
			w.answers(t, api.Op{Kind: api.OpPush, W: uint64(c.value)}, api.Ans{Err: err})
		}
		if ended && (err == api.OK) == (last.Kind == api.AccessLoad) {
			t.Fatalf("a push has ended with %v, by %+v", err, last)
		}
	case *ring.Front:
		if ended {
			w.answers(t, api.Op{Kind: api.OpFront}, api.Ans{Err: err, W: uint64(value)})
		}
	case *ring.Drop:
		if len(c.done) == 1 {
			w.answers(t, api.Op{Kind: api.OpDrop}, api.Ans{})
			w.dropped++
		}
	}
}

// answers sees to it that a queue would have given this answer.
func (w *world) answers(t *testing.T, op api.Op, ans api.Ans) {
	t.Helper()
	next, may := fifo.Next(w.r.Size, w.queue, op, ans)
	if !may {
		t.Fatalf("%+v, of %v: no queue answers %+v", op, w.queue, ans)
	}
	w.queue = next
}

func (w *world) end(t *testing.T, c *core) {
	t.Helper()
	value, at, err := outcome(c.doing)
	if _, is := c.doing.(*ring.Front); is && err == api.OK {
		c.told, c.at = true, at
	}
	if w.keeps {
		w.history = append(w.history, api.Event{ID: c.id, Answer: true, Ans: api.Ans{Err: err, W: uint64(value)}})
	}
	c.doing, c.done = nil, nil
}

// check sees to it that the ring holds what a queue would, and that its head and its tail are one step behind at most.
func (w *world) check(t *testing.T) {
	t.Helper()
	words := w.m.Words()
	head, tail := words[w.r.Head], words[w.r.Tail]
	dropping := head != w.dropped
	if dropping && head+1 != w.dropped || tail != w.pushed && tail+1 != w.pushed {
		t.Fatalf("head %d, tail %d, of %d to %d", head, tail, w.dropped, w.pushed)
	}
	m := w.m
	if dropping {
		if all := ring.All(w.r, m); len(all) > 0 {
			t.Fatal("the first slot is empty:", all)
		}
		m = m.Copy()
		m.Store(w.r.Head, w.dropped)
	}
	var all []uint64
	for _, v := range ring.All(w.r, m) {
		all = append(all, uint64(v))
	}
	if !slices.Equal(all, w.queue) {
		t.Fatalf("%x holds %v, want %v", words, all, w.queue)
	}
}

// checkAlone has each operation that is under way, and each that begins now, continue alone, and returns how many steps a push that continues needs at most (P14.5).
func (w *world) checkAlone(t *testing.T) int {
	t.Helper()
	longest := 0
	for at, c := range w.cores {
		alone := w.copied()
		if c.doing == nil && at > 0 {
			alone.begin(at, 'p', 9)
		} else if c.doing == nil {
			alone.begin(at, 't', 0)
		}
		most := 2
		_, is := alone.cores[at].doing.(*ring.Push)
		if is {
			most = 9
		}
		n := 1
		for !alone.step(t, at) {
			if n++; n > most {
				t.Fatalf("%T: not ended alone after %d steps", c.doing, most)
			}
		}
		if is {
			longest = max(longest, n)
		}
	}
	return longest
}

// state tells one world from others that go on otherwise: an operation goes on by what its steps have found.
func (w *world) state(scripts []string) string {
	l := []any{scripts, w.m.Words()}
	for _, c := range w.cores {
		l = append(l, c.value, c.done, c.told, c.at)
	}
	return fmt.Sprint(l...)
}

// explorer makes all sequences of steps.
type explorer struct {
	seen    map[string]bool
	longest int
}

// explore makes all sequences of steps in which each core makes the operations of its script; from states in which others have been, nothing new comes.
func (e *explorer) explore(t *testing.T, w *world, scripts []string) {
	t.Helper()
	state := w.state(scripts)
	if e.seen[state] {
		return
	}
	e.seen[state] = true
	e.longest = max(e.longest, w.checkAlone(t))
	for at, script := range scripts {
		if w.cores[at].doing == nil && script == "" {
			continue
		}
		next, rest := w.copied(), slices.Clone(scripts)
		if next.cores[at].doing == nil {
			next.begin(at, script[0], 10*at+len(script))
			rest[at] = script[1:]
		}
		next.step(t, at)
		e.explore(t, next, rest)
	}
}

// P14.4, P14.5: in whatever order the steps of a few operations are made, also where laps go round.
func TestAllOrders(t *testing.T) {
	const around = 1<<32 - 1
	longest := 0
	for _, c := range []struct {
		size    int
		first   uint64
		scripts []string
	}{
		{1, 0, []string{"ttttt", "pp"}},
		{1, around, []string{"ttttt", "pp"}},
		{1, 0, []string{"pttpt", "p"}},
		{1, 0, []string{"ttt", "p", "p"}},
		{1, around, []string{"tt", "pp", "p"}},
		{2, 0, []string{"tttt", "ppp"}},
		{2, 2 * around, []string{"pttp", "pp"}},
		{2, 0, []string{"tt", "pp", "p"}},
		{2, 2*around + 1, []string{"", "pp", "pp"}},
		{3, 3*around + 2, []string{"tt", "p", "p"}},
		{3, 0, []string{"", "pp", "pp"}},
		{2, 2*around + 1, []string{"", "p", "p", "p"}},
	} {
		e := explorer{seen: map[string]bool{}}
		e.explore(t, newWorld(t, c.size, len(c.scripts), c.first), c.scripts)
		if len(e.seen) < 100 {
			t.Errorf("%+v: %d states", c, len(e.seen))
		}
		longest = max(longest, e.longest)
	}
	if longest != 9 {
		t.Errorf("no push needed more than %d steps", longest)
	}
}

// script is numbers that look as if they were random.
type script uint64

func (s *script) next(n int) int {
	*s = *s*6364136223846793005 + 1442695040888963407
	return int(*s>>33) % n
}

// P14.4, P14.5: long runs of several cores, which stop and continue anywhere.
func TestLongRuns(t *testing.T) {
	for _, c := range []struct{ size, cores int }{{1, 1}, {1, 3}, {2, 2}, {2, 5}, {3, 4}, {5, 3}, {16, 8}, {40, 16}, {7, 64}} {
		for _, first := range []uint64{0, uint64(c.size)<<32 - 50} {
			w, s, ends := newWorld(t, c.size, c.cores, first), script(c.size*100+c.cores), map[api.Errno]int{}
			for n := range 6000 {
				at := s.next(c.cores)
				if s.next(4) == 0 {
					at = 0
				}
				if w.cores[at].doing == nil {
					kind := "ttpt"[s.next(4)]
					if at > 0 {
						kind = 'p'
					}
					w.begin(at, kind, s.next(1<<16))
				}
				doing := w.cores[at].doing
				if w.step(t, at) {
					_, _, err := outcome(doing)
					ends[err]++
				}
				if n%40 == 0 {
					w.checkAlone(t)
				}
			}
			if ends[api.OK] < 500 || ends[api.ErrFull]+ends[api.ErrNone] == 0 {
				t.Errorf("%+v: %v", c, ends)
			}
		}
	}
}

// P14.4: histories of a few operations have linearizations.
func TestLinear(t *testing.T) {
	for n := range 400 {
		s := script(n)
		size, cores := 1+s.next(3), 2+s.next(3)
		w := newWorld(t, size, cores, 0)
		w.keeps = true
		for w.calls < api.MaxSearch || slices.ContainsFunc(w.cores, func(c core) bool { return c.doing != nil }) && s.next(30) > 0 {
			at := s.next(cores)
			if w.cores[at].doing == nil {
				if w.calls == api.MaxSearch {
					continue
				}
				w.begin(at, "tp"[min(at, 1)], 1+s.next(3))
			}
			w.step(t, at)
		}
		if is, err := linear.Linear(api.ModelFifo, size, w.history); !is || err != api.OK {
			t.Fatalf("%v: %v, of %+v", is, err, w.history)
		}
	}
}

// P14.4, P14.5: pushes that stop for good, wherever, keep nobody from pushing, telling and dropping, for however long.
func TestStopped(t *testing.T) {
	for stopAt := 1; stopAt <= 3; stopAt++ {
		w := newWorld(t, 2, 4, 0)
		for at := 2; at <= 3; at++ {
			w.begin(at, 'p', at)
			for range stopAt {
				w.step(t, at)
			}
		}
		for n := range 300 {
			at, kind := 0, byte('t')
			if n%3 == 0 {
				at, kind = 1, 'p'
			}
			w.begin(at, kind, n)
			for steps := 1; !w.step(t, at); steps++ {
				if steps == 9 {
					t.Fatal("kept by who has stopped")
				}
			}
		}
		if w.dropped < 100 {
			t.Errorf("%d dropped only", w.dropped)
		}
		w.checkAlone(t)
	}
}
