package stack_test

import (
	"slices"
	"testing"

	"coxswain/api"
	"coxswain/cells"
	"coxswain/stack"
)

// core is who makes operations: the indices that it has, and the operation in which it is, if any.
type core struct {
	has    []int
	doing  operation
	index  int  // what a push lays on top
	steps  int  // how many it has made in the operation
	loaded int  // how many swaps had succeeded when the operation loaded the top
	looked bool // whether it has loaded the top
}

// world is a stack whose indices go round among cores, each step of which is held against the theorems.
type world struct {
	s     api.Stack
	m     *cells.Mem
	cores []core
	swaps int // how many swaps of the top have succeeded
}

// newWorld has all indices on a stack that lies amid other cells.
func newWorld(t *testing.T, size, cores int) *world {
	t.Helper()
	s := api.Stack{Top: size + 2, Links: 1, Size: size}
	m, err := cells.New(size + 4)
	if err != api.OK || stack.Fits(s, m.Size()) != api.OK {
		t.Fatal("world:", err)
	}
	stack.Fill(s, m)
	return &world{s: s, m: m, cores: make([]core, cores)}
}

// copied goes on by itself, so that one step can be made in more than one way.
func (w *world) copied() *world {
	other := *w
	other.m = w.m.Copy()
	other.cores = slices.Clone(w.cores)
	for i := range other.cores {
		c := &other.cores[i]
		c.has, c.doing = slices.Clone(c.has), again(c.doing)
	}
	return &other
}

// again is an operation that is as far as another one.
func again(x operation) operation {
	switch x := x.(type) {
	case *stack.Pop:
		y := *x
		return &y
	case *stack.Push:
		y := *x
		return &y
	case *stack.All:
		y := *x
		return &y
	}
	return nil
}

// begin has a core begin an operation of a kind; one that has nothing to push pops.
func (w *world) begin(at, kind int) {
	c := &w.cores[at]
	c.steps, c.looked = 0, false
	switch {
	case kind == 'a':
		c.doing = stack.NewAll(w.s)
	case kind == 'p' && len(c.has) > 0:
		c.index = c.has[0]
		c.has = c.has[1:]
		c.doing = stack.NewPush(w.s, c.index)
	default:
		c.doing = stack.NewPop(w.s)
	}
}

// step makes the next step of a core, and reports whether its operation has ended with it.
func (w *world) step(t *testing.T, at int) bool {
	t.Helper()
	c := &w.cores[at]
	before, count := stack.Chain(w.s, w.m), w.m.Count()
	ended := c.doing.Step(w.m)
	c.steps++
	a := w.m.Last()
	if w.m.Count() != count+1 {
		t.Fatal("a step is one access")
	}
	swapped := a.Kind == api.AccessCAS && a.Held
	switch {
	case a.Kind == api.AccessLoad && a.At == w.s.Top:
		w.checkLoad(t, c)
	case a.Kind == api.AccessCAS && (a.At != w.s.Top || a.Held != (c.loaded == w.swaps)):
		t.Fatalf("%+v: a swap of the top succeeds unless somebody else's did", a)
	case a.Held && !swapped && slices.Contains(before, a.At-w.s.Links):
		t.Fatalf("%+v: the link of an index on the stack", a)
	}
	if swapped {
		w.swaps++
	}
	if ended {
		w.end(t, c, before)
	} else if !slices.Equal(stack.Chain(w.s, w.m), before) {
		t.Fatal("only the last step changes what is on the stack")
	}
	w.checkPlaces(t)
	return ended
}

// checkLoad sees to it that an operation begins anew only because somebody else's swap has succeeded (P10.5).
func (w *world) checkLoad(t *testing.T, c *core) {
	t.Helper()
	if c.looked && c.loaded == w.swaps {
		t.Fatal("begun anew for no reason")
	}
	c.looked, c.loaded = true, w.swaps
}

// end holds what an operation came to against what was on the stack immediately before its last step (P10.4, P10.6).
func (w *world) end(t *testing.T, c *core, before []int) {
	t.Helper()
	after := stack.Chain(w.s, w.m)
	i, err := outcome(c.doing)
	var taken, left []int
	switch c.doing.(type) {
	case *stack.Push:
		left = append([]int{c.index}, before...)
	case *stack.Pop:
		taken = before[:min(1, len(before))]
		left = before[len(taken):]
	case *stack.All:
		taken = before
	}
	if _, is := c.doing.(*stack.Push); is || len(taken) > 0 {
		if err != api.OK {
			t.Fatal("ended with", err)
		}
	} else if i != 0 || err != api.ErrNone {
		t.Fatal("of none:", i, err)
	}
	if len(taken) > 0 && i != taken[0] || !slices.Equal(after, left) {
		t.Fatalf("%T of %v: %d, then %v", c.doing, before, i, after)
	}
	c.has = append(c.has, taken...)
	c.doing = nil
}

// checkPlaces sees to it that each index is in one place: on the stack, with a core, or being pushed (P10.4).
func (w *world) checkPlaces(t *testing.T) {
	t.Helper()
	l := stack.Chain(w.s, w.m)
	for _, c := range w.cores {
		l = append(l, c.has...)
		if _, is := c.doing.(*stack.Push); is {
			l = append(l, c.index)
		}
	}
	slices.Sort(l)
	for i, k := range l {
		if i != k {
			t.Fatal("places:", l)
		}
	}
	if len(l) != w.s.Size {
		t.Fatal("lost:", l)
	}
}

// checkAlone has each operation that is under way continue alone (P10.5).
func (w *world) checkAlone(t *testing.T) {
	t.Helper()
	for at, c := range w.cores {
		if c.doing == nil {
			continue
		}
		alone, most := w.copied(), 5
		if c.steps == 0 {
			most = 3
		}
		for n := 1; !alone.step(t, at); n++ {
			if n == most {
				t.Fatalf("not ended alone after %d steps", n)
			}
		}
	}
}

// explore makes all sequences of steps in which each core makes the operations of its script, and returns how many there are.
func explore(t *testing.T, w *world, scripts []string) int {
	t.Helper()
	many := 0
	for at, script := range scripts {
		next := w.copied()
		if next.cores[at].doing == nil {
			if script == "" {
				continue
			}
			next.begin(at, int(script[0]))
			script = script[1:]
		}
		next.step(t, at)
		next.checkAlone(t)
		rest := slices.Clone(scripts)
		rest[at] = script
		many += explore(t, next, rest)
	}
	return max(many, 1)
}

// P10.4, P10.5, P10.6: in whatever order the steps of a few operations are made. (o: pop, p: push, a: all.)
func TestAllOrders(t *testing.T) {
	for _, c := range []struct {
		size    int
		scripts []string
	}{
		{1, []string{"o", "o"}},
		{1, []string{"op", "o"}},
		{1, []string{"op", "a"}},
		{2, []string{"oop", "o"}},
		{2, []string{"ap", "o"}},
		{2, []string{"a", "a"}},
		{3, []string{"o", "o", "a"}},
		{2, []string{"o", "a", "a"}},
	} {
		many := explore(t, newWorld(t, c.size, len(c.scripts)), c.scripts)
		if many < 3 {
			t.Errorf("%v: %d sequences", c.scripts, many)
		}
	}
}

// P10.4, P10.5: pushes at the same time, with and without one who takes, in whatever order.
func TestPushOrders(t *testing.T) {
	for _, scripts := range [][]string{{"p", "p"}, {"p", "o"}, {"pp", "o"}, {"p", "p", "a"}} {
		w := newWorld(t, 4, len(scripts))
		for at, script := range scripts {
			for range len(script) {
				w.begin(at, 'o')
				for !w.step(t, at) {
				}
			}
		}
		explore(t, w, scripts)
	}
}

// script is numbers that look as if they were random.
type script uint64

func (s *script) next(n int) int {
	*s = *s*6364136223846793005 + 1442695040888963407
	return int(*s>>33) % n
}

// P10.4, P10.5, P10.6: long runs of several cores, which stop and continue anywhere. Of those that are stepped in any order one ends: who has made five steps has ended, or somebody else has.
func TestLongRuns(t *testing.T) {
	for _, c := range []struct{ size, cores int }{{1, 2}, {1, 4}, {2, 3}, {3, 2}, {3, 5}, {5, 4}, {8, 8}, {40, 3}} {
		w, s, since := newWorld(t, c.size, c.cores), script(c.size*100+c.cores), 0
		for n := range 6000 {
			at := s.next(c.cores)
			if w.cores[at].doing == nil {
				w.begin(at, int("oooppppa"[s.next(8)]))
			}
			since++
			if w.step(t, at) {
				since = 0
			}
			if since > 4*c.cores {
				t.Fatalf("%d steps, and none has ended", since)
			}
			if n%20 == 0 {
				w.checkAlone(t)
			}
		}
	}
}

// P10.5: an operation whose every swap comes late ends as soon as it is left alone.
func TestAlwaysLate(t *testing.T) {
	w := newWorld(t, 3, 3)
	w.begin(1, 'o')
	w.begin(2, 'a')
	for range 50 {
		for _, kind := range "op" {
			w.begin(0, int(kind))
			if w.step(t, 1) || w.step(t, 2) {
				t.Fatal("too soon")
			}
			for !w.step(t, 0) {
			}
			if w.step(t, 1) || w.step(t, 1) || w.step(t, 2) {
				t.Fatal("too late to succeed")
			}
			w.checkAlone(t)
		}
	}
}
