package arena_test

import (
	"fmt"
	"slices"
	"testing"

	"coxswain/api"
	"coxswain/arena"
	"coxswain/cells"
	"coxswain/linear"
	"coxswain/stack"
)

// core is who makes operations: the nodes that it has, and the operation in which it is, if any.
type core struct {
	has   []int
	doing operation
	id    int
	index int          // what it frees, or has popped, if any
	done  []api.Access // the steps of the operation
}

// world is an arena whose nodes go round among cores, each step of which is held against the theorems.
type world struct {
	a       api.Arena
	m       *cells.Mem
	cores   []core
	refs    []uint64 // which were given out
	worn    []int
	history []api.Event
}

// newWorld has all nodes free in an arena that lies amid other cells.
func newWorld(t *testing.T, size, limit, cores int) *world {
	t.Helper()
	a := api.Arena{Free: api.Stack{Top: size + 2, Links: 1, Size: size}, Gens: size + 4, Worn: 2*size + 4, Limit: limit}
	m, err := cells.New(2*size + 6)
	if err != api.OK || arena.Fits(a, m.Size()) != api.OK {
		t.Fatal("world:", err)
	}
	arena.Fill(a, m)
	w := &world{a: a, m: m, cores: make([]core, cores)}
	for at := range w.cores {
		w.cores[at].index = -1
	}
	return w
}

// copied goes on by itself, so that one step can be made in more than one way.
func (w *world) copied() *world {
	other := *w
	other.m = w.m.Copy()
	other.cores = slices.Clone(w.cores)
	other.refs, other.worn, other.history = slices.Clone(w.refs), slices.Clone(w.worn), slices.Clone(w.history)
	for i := range other.cores {
		c := &other.cores[i]
		c.has, c.doing = slices.Clone(c.has), again(c.doing)
	}
	return &other
}

// again is an operation that is as far as another one.
func again(x operation) operation {
	switch x := x.(type) {
	case *arena.Alloc:
		y := *x
		return &y
	case *arena.Free:
		y := *x
		return &y
	}
	return nil
}

// begin has a core begin an operation of a kind; one that has nothing to free allocates.
func (w *world) begin(at int, kind byte) {
	c := &w.cores[at]
	c.done, c.index, c.id = nil, -1, 100+len(w.history)
	op := api.Op{Kind: api.OpAlloc}
	if kind == 'f' && len(c.has) > 0 {
		c.index = c.has[0]
		c.has = c.has[1:]
		c.doing = arena.NewFree(w.a, c.index)
		op = api.Op{Kind: api.OpFree, A: c.index}
	} else {
		c.doing = arena.NewAlloc(w.a)
	}
	w.history = append(w.history, api.Event{ID: c.id, Op: op})
}

// step makes the next step of a core, and reports whether its operation has ended with it.
func (w *world) step(t *testing.T, at int) bool {
	t.Helper()
	c := &w.cores[at]
	before, count := stack.Chain(w.a.Free, w.m), w.m.Count()
	ended := c.doing.Step(w.m)
	c.done = append(c.done[:len(c.done):len(c.done)], w.m.Last())
	if w.m.Count() != count+1 {
		t.Fatal("a step is one access")
	}
	last := w.m.Last()
	_, allocates := c.doing.(*arena.Alloc)
	if last.Kind == api.AccessCAS && last.Held && allocates {
		c.index = before[0]
	}
	if last.Kind == api.AccessAdd {
		w.worn = append(w.worn, c.index)
		c.index = -1
	}
	if ended {
		w.end(t, c)
	}
	w.checkPlaces(t)
	return ended
}

// end keeps what an operation came to.
func (w *world) end(t *testing.T, c *core) {
	t.Helper()
	ref, err := outcome(c.doing)
	ans := api.Ans{Err: err}
	if _, is := c.doing.(*arena.Alloc); !is {
		if err != api.OK {
			t.Fatal("a free ended with", err)
		}
	} else if err == api.OK {
		w.checkRef(t, c.index, ref)
		w.refs = append(w.refs, ref)
		c.has = append(c.has, c.index)
		ans.N = c.index
	} else if ref != 0 || err != api.ErrFull && err != api.ErrWorn {
		t.Fatal("an alloc ended with", ref, err)
	} else if all := len(w.worn) == w.a.Free.Size; all != (err == api.ErrWorn) {
		t.Fatal(len(w.worn), "are worn:", err)
	}
	w.history = append(w.history, api.Event{ID: c.id, Answer: true, Ans: ans})
	c.doing, c.done, c.index = nil, nil, -1
}

// checkRef sees to it that a ref is that of the node, was not given out before, and is not past the limit (P11.4).
func (w *world) checkRef(t *testing.T, index int, ref uint64) {
	t.Helper()
	gen := w.m.Words()[w.a.Gens+index]
	if ref != gen<<16|uint64(index+1) || gen < 1 || gen > uint64(w.a.Limit) {
		t.Fatalf("the ref %x of the node %d, whose generation is %d", ref, index, gen)
	}
	if slices.Contains(w.refs, ref) {
		t.Fatalf("the ref %x for the second time", ref)
	}
}

// checkPlaces sees to it that each node is in one place: free, worn, with a core, or within an operation (P11.4).
func (w *world) checkPlaces(t *testing.T) {
	t.Helper()
	if got := w.m.Words()[w.a.Worn]; got != uint64(len(w.worn)) {
		t.Fatal("worn:", got, w.worn)
	}
	l := append(stack.Chain(w.a.Free, w.m), w.worn...)
	for _, c := range w.cores {
		l = append(l, c.has...)
		_, frees := c.doing.(*arena.Free)
		if c.index >= 0 {
			l = append(l, c.index)
		} else if frees {
			t.Fatal("a free goes on behind its end")
		}
	}
	slices.Sort(l)
	for i, k := range l {
		if i != k {
			t.Fatal("places:", l)
		}
	}
	if len(l) != w.a.Free.Size {
		t.Fatal("lost:", l)
	}
}

// checkAlone has each operation that is under way continue alone (P11.6).
func (w *world) checkAlone(t *testing.T) {
	t.Helper()
	for at, c := range w.cores {
		if c.doing == nil {
			continue
		}
		alone := w.copied()
		for n := 1; !alone.step(t, at); n++ {
			if n == 6 {
				t.Fatal("not ended alone after 6 steps")
			}
		}
	}
}

// checkLinear holds the answers against those of a pool (P11.5).
func (w *world) checkLinear(t *testing.T) {
	t.Helper()
	is, err := linear.Linear(api.ModelPool, w.a.Free.Size, w.history)
	if !is || err != api.OK {
		t.Fatal("no pool answers so:", w.history, err)
	}
}

// state tells one world from others that go on otherwise: an operation goes on by what its steps have found.
func (w *world) state(scripts []string) string {
	l := []any{scripts, w.m.Words(), w.history}
	for _, c := range w.cores {
		l = append(l, c.has, c.done)
	}
	return fmt.Sprint(l...)
}

// explore makes all sequences of steps in which each core makes the operations of its script; from states in which others have been, nothing new comes.
func explore(t *testing.T, w *world, scripts []string, seen map[string]bool) {
	t.Helper()
	state := w.state(scripts)
	if seen[state] {
		return
	}
	seen[state] = true
	w.checkAlone(t)
	ended := true
	for at, script := range scripts {
		if w.cores[at].doing == nil && script == "" {
			continue
		}
		ended = false
		next, rest := w.copied(), slices.Clone(scripts)
		if next.cores[at].doing == nil {
			next.begin(at, script[0])
			rest[at] = script[1:]
		}
		next.step(t, at)
		explore(t, next, rest, seen)
	}
	if ended {
		w.checkLinear(t)
	}
}

// P11.4, P11.5, P11.6: in whatever order the steps of a few operations are made, from states in which cores have nodes already. (a: alloc, f: free.)
func TestAllOrders(t *testing.T) {
	for _, c := range []struct {
		size, limit    int
		ahead, scripts []string
	}{
		{1, 1, []string{"", ""}, []string{"a", "a"}},
		{1, 1, []string{"a", ""}, []string{"f", "aa"}},
		{1, 2, []string{"a", ""}, []string{"f", "aa"}},
		{1, 2, []string{"a", ""}, []string{"f", "af"}},
		{2, 2, []string{"a", ""}, []string{"f", "aa"}},
		{2, 1, []string{"a", "a"}, []string{"fa", "fa"}},
		{2, 2, []string{"a", "a"}, []string{"f", "fa"}},
		{2, 5, []string{"aa", ""}, []string{"ff", "a"}},
		{3, 2, []string{"a", "a"}, []string{"f", "f"}},
		{1, 1, []string{"a", "", ""}, []string{"f", "a", "a"}},
		{2, 2, []string{"", "", ""}, []string{"a", "a", "a"}},
		{3, 2, []string{"a", "a", "a"}, []string{"f", "f", "f"}},
		{2, 2, []string{"a", "a", ""}, []string{"f", "f", "a"}},
		{3, 2, []string{"aa", "a"}, []string{"faf", "fa"}},
		{2, 1, []string{"a", "a", ""}, []string{"f", "f", "aa"}},
	} {
		w := newWorld(t, c.size, c.limit, len(c.scripts))
		for at, script := range c.ahead {
			for i := range len(script) {
				w.begin(at, script[i])
				for !w.step(t, at) {
				}
			}
		}
		seen := map[string]bool{}
		explore(t, w, c.scripts, seen)
		if len(seen) < 20 {
			t.Errorf("%+v: %d states", c, len(seen))
		}
	}
}

// script is numbers that look as if they were random.
type script uint64

func (s *script) next(n int) int {
	*s = *s*6364136223846793005 + 1442695040888963407
	return int(*s>>33) % n
}

// P11.5: the answers of up to ten operations, some of which have not ended, are those of a pool.
func TestLinear(t *testing.T) {
	s := script(5)
	for range 1500 {
		size, limit, cores := 1+s.next(3), 1+s.next(4), 2+s.next(3)
		w := newWorld(t, size, limit, cores)
		for calls := 0; ; {
			at := s.next(cores)
			if w.cores[at].doing == nil {
				if calls == api.MaxSearch {
					break
				}
				calls++
				w.begin(at, "aaf"[s.next(3)])
			}
			w.step(t, at)
		}
		w.endAllocs(t)
		w.checkLinear(t)
	}
}

// endAllocs has all allocs end but two, for more of them that are pending cannot be searched.
func (w *world) endAllocs(t *testing.T) {
	t.Helper()
	pending := 0
	for at, c := range w.cores {
		if _, is := c.doing.(*arena.Alloc); !is {
			continue
		}
		pending++
		for pending > 2 && !w.step(t, at) {
		}
	}
}

// P11.4, P11.6: long runs of several cores, which stop and continue anywhere, with nodes that are worn soon and late. Of those that are stepped in any order one ends.
func TestLongRuns(t *testing.T) {
	for _, c := range []struct{ size, limit, cores int }{{1, 40, 2}, {1, 9, 4}, {2, 100, 3}, {3, 7, 2}, {3, 1000, 5}, {5, 3, 4}, {8, 1, 8}, {40, 20, 3}} {
		w, s, since := newWorld(t, c.size, c.limit, c.cores), script(c.size*100+c.cores), 0
		for n := range 5000 {
			at := s.next(c.cores)
			if w.cores[at].doing == nil {
				w.begin(at, "af"[s.next(2)])
			}
			since++
			if w.step(t, at) {
				since = 0
			}
			if since > 6*c.cores {
				t.Fatalf("%d steps, and none has ended", since)
			}
			if n%20 == 0 {
				w.history = nil
				w.checkAlone(t)
			}
		}
	}
}

// P11.4: each node is given out once in each of its generations, until all are worn, which is told from then on.
func TestWornOut(t *testing.T) {
	w := newWorld(t, 3, 4, 1)
	for range 3 * 4 {
		for _, kind := range []byte("af") {
			w.begin(0, kind)
			for !w.step(t, 0) {
			}
		}
	}
	if len(w.refs) != 12 || len(w.worn) != 3 {
		t.Errorf("refs %x, worn %v", w.refs, w.worn)
	}
	for range 3 {
		w.begin(0, 'a')
		for !w.step(t, 0) {
		}
	}
	if len(w.refs) != 12 {
		t.Errorf("refs %x", w.refs)
	}
}
