package limbo_test

import (
	"fmt"
	"slices"
	"testing"

	"coxswain/api"
	"coxswain/arena"
	"coxswain/cells"
	"coxswain/epoch"
	"coxswain/limbo"
	"coxswain/stack"
)

// core is who makes operations: at which epoch it is pinned, if any, the nodes that it has, and the operation in which it is, if any.
type core struct {
	at     int
	has    []int
	doing  operation
	index  int          // what it retires, or has popped, if any
	moving []int        // what it has taken to free it
	freed  int          // how many of these it has freed
	done   []api.Access // the steps of the operation
}

// world is a limbo whose nodes go round among cores, each step of which is held against the theorems.
type world struct {
	l     api.Limbo
	m     *cells.Mem
	cores []core
	knows []uint64 // of each node, a bit for each core that is pinned since before the node was retired
	worn  []int
	freed int
}

// newWorld has all nodes free in a limbo that lies amid other cells.
func newWorld(t *testing.T, size, limit, cores int) *world {
	t.Helper()
	l := api.Limbo{
		A:    api.Arena{Free: api.Stack{Top: size + 5, Links: 1, Size: size}, Gens: size + 7, Worn: 2*size + 7, Limit: limit},
		E:    api.Epoch{At: size + 6, Pins: 2*size + 8, Cores: cores},
		Tops: size + 2,
	}
	m, err := cells.New(2*size + cores + 9)
	if err != api.OK || limbo.Fits(l, m.Size()) != api.OK {
		t.Fatal("world:", err)
	}
	limbo.Fill(l, m)
	w := &world{l: l, m: m, cores: make([]core, cores), knows: make([]uint64, size)}
	for c := range w.cores {
		w.cores[c].at, w.cores[c].index = -1, -1
	}
	return w
}

// copied goes on by itself, so that one step can be made in more than one way.
func (w *world) copied() *world {
	other := *w
	other.m, other.cores = w.m.Copy(), slices.Clone(w.cores)
	other.knows, other.worn = slices.Clone(w.knows), slices.Clone(w.worn)
	for i := range other.cores {
		c := &other.cores[i]
		c.has, c.doing = slices.Clone(c.has), again(c.doing)
	}
	return &other
}

// again is an operation that is as far as another one.
func again(x operation) operation {
	switch x := x.(type) {
	case *epoch.Pin:
		y := *x
		return &y
	case *epoch.Unpin:
		y := *x
		return &y
	case *arena.Alloc:
		y := *x
		return &y
	case *limbo.Retire:
		y := *x
		return &y
	case *limbo.Collect:
		y := *x
		return &y
	}
	return nil
}

// begin has a core begin an operation of a kind (p: pin, u: unpin, a: alloc, r: retire, c: collect). One that is not pinned cannot retire or collect, and is pinned instead; one that has no node allocates instead.
func (w *world) begin(at int, kind byte) {
	c := &w.cores[at]
	c.done, c.freed = nil, 0
	switch {
	case kind == 'u':
		c.doing = epoch.NewUnpin(w.l.E, at)
	case kind == 'a', kind == 'r' && len(c.has) == 0:
		c.doing = arena.NewAlloc(w.l.A)
	case kind == 'p', c.at < 0:
		c.doing = epoch.NewPin(w.l.E, at)
	case kind == 'r':
		c.index = c.has[0]
		c.has = c.has[1:]
		c.doing = limbo.NewRetire(w.l, c.index)
	case kind == 'c':
		c.doing = limbo.NewCollect(w.l, at, c.at)
	}
}

// waiting is the stack of a place, from 0 to 2.
func (w *world) waiting(k int) api.Stack {
	return api.Stack{Top: w.l.Tops + k, Links: w.l.A.Free.Links, Size: w.l.A.Free.Size}
}

// step makes the next step of a core, and reports whether its operation has ended with it.
func (w *world) step(t *testing.T, at int) bool {
	t.Helper()
	c := &w.cores[at]
	before, count := w.m.Copy(), w.m.Count()
	ended := c.doing.Step(w.m)
	if w.m.Count() != count+1 {
		t.Fatal("a step is one access")
	}
	last := w.m.Last()
	c.done = append(c.done[:len(c.done):len(c.done)], last)
	switch c.doing.(type) {
	case *epoch.Pin, *epoch.Unpin:
		if last.Kind == api.AccessStore {
			w.unpinned(at)
		}
	case *arena.Alloc:
		if last.Held {
			c.index = stack.Chain(w.l.A.Free, before)[0]
			w.checkUnknown(t, c.index)
		}
	case *limbo.Retire:
		if len(c.done) == 1 {
			w.knows[c.index] = w.pinned()
		}
	case *limbo.Collect:
		w.collects(t, c, before, last)
	}
	if ended {
		w.end(t, c)
	}
	w.checkPlaces(t)
	return ended
}

func (w *world) unpinned(at int) {
	w.cores[at].at = -1
	for i := range w.knows {
		w.knows[i] &^= 1 << at
	}
}

// pinned is a bit for each core that is.
func (w *world) pinned() uint64 {
	l := uint64(0)
	for at, c := range w.cores {
		if c.at >= 0 {
			l |= 1 << at
		}
	}
	return l
}

// checkUnknown sees to it that no core is pinned any more that was pinned when a node was retired (P13.3).
func (w *world) checkUnknown(t *testing.T, i int) {
	t.Helper()
	if w.knows[i] != 0 {
		t.Fatalf("the node %d is reused; pinned since before it was retired: %b", i, w.knows[i])
	}
}

// collects keeps what a step of a collect has taken off a waiting stack, or freed.
func (w *world) collects(t *testing.T, c *core, before *cells.Mem, last api.Access) {
	t.Helper()
	free := w.l.A.Free.Top
	switch {
	case last.Kind == api.AccessCAS && last.Held && last.At != free && last.At != w.l.E.At:
		c.moving = stack.Chain(w.waiting(last.At-w.l.Tops), before)
		for _, i := range c.moving {
			w.checkUnknown(t, i)
		}
		return
	case last.Kind == api.AccessCAS && last.Held && last.At == free:
		if got := stack.Chain(w.l.A.Free, w.m)[0]; got != c.moving[0] {
			t.Fatal("freed:", got, c.moving)
		}
	case last.Kind == api.AccessAdd:
		w.worn = append(w.worn, c.moving[0])
	default:
		return
	}
	c.moving = c.moving[1:]
	c.freed++
	w.freed++
}

// end keeps what an operation came to.
func (w *world) end(t *testing.T, c *core) {
	t.Helper()
	switch x := c.doing.(type) {
	case *epoch.Pin:
		c.at, _ = x.At()
	case *arena.Alloc:
		if _, err := x.Ref(); err == api.OK {
			c.has = append(c.has, c.index)
		}
	case *limbo.Retire:
		if x.Err() != api.OK {
			t.Fatal("a retire ended with", x.Err())
		}
	case *limbo.Collect:
		many, err := x.Many()
		advanced := slices.ContainsFunc(c.done, func(a api.Access) bool { return a.At == w.l.E.At && a.Held })
		if many != c.freed || len(c.moving) != 0 || advanced != (err == api.OK) || !advanced && err != api.ErrBusy {
			t.Fatalf("a collect ended with %d, %v; freed %d, left %v, advanced %v", many, err, c.freed, c.moving, advanced)
		}
	}
	c.doing, c.done, c.index = nil, nil, -1
}

// checkPlaces sees to it that each node is in one place: free, waiting, worn, with a core, or within an operation (P6).
func (w *world) checkPlaces(t *testing.T) {
	t.Helper()
	l := append(stack.Chain(w.l.A.Free, w.m), w.worn...)
	for k := range 3 {
		l = append(l, stack.Chain(w.waiting(k), w.m)...)
	}
	for _, c := range w.cores {
		l = append(append(l, c.has...), c.moving...)
		if c.index >= 0 {
			l = append(l, c.index)
		}
	}
	slices.Sort(l)
	for i, k := range l {
		if i != k {
			t.Fatal("places:", l)
		}
	}
	if len(l) != w.l.A.Free.Size || w.m.Words()[w.l.A.Worn] != uint64(len(w.worn)) {
		t.Fatal("lost:", l, w.worn)
	}
}

// most is how many steps an operation that continues alone may need.
func (w *world) most(x operation) int {
	switch x.(type) {
	case *limbo.Retire:
		return 5
	case *limbo.Collect:
		return w.l.E.Cores + 3 + 6*w.l.A.Free.Size
	}
	return 6
}

// checkAlone has each operation that is under way continue alone: it ends.
func (w *world) checkAlone(t *testing.T) {
	t.Helper()
	for at, c := range w.cores {
		if c.doing == nil {
			continue
		}
		alone, most := w.copied(), w.most(c.doing)
		for n := 1; !alone.step(t, at); n++ {
			if n == most {
				t.Fatalf("%T: not ended alone after %d steps", c.doing, n)
			}
		}
	}
}

// checkEmptied has each core that may collect three times, if no other one is pinned, and reports whether one could: everything that was retired is free then, or worn (P13.4).
func (w *world) checkEmptied(t *testing.T) bool {
	t.Helper()
	pins, could := epoch.Pinned(w.l.E, w.m), false
	for at, c := range w.cores {
		others := slices.Clone(pins)
		others[at] = -1
		if c.doing != nil || slices.Max(others) >= 0 {
			continue
		}
		could = true
		for _, kinds := range []string{"pcpcpc", "pcupcupcu", "upcpcupc"} {
			w.copied().checkThree(t, at, kinds)
		}
	}
	return could
}

func (w *world) checkThree(t *testing.T, at int, kinds string) {
	t.Helper()
	want := w.waits()
	before := w.freed
	for i := range len(kinds) {
		w.begin(at, kinds[i])
		x := w.cores[at].doing
		for !w.step(t, at) {
		}
		if kinds[i] != 'c' {
			continue
		}
		if _, err := outcome(x); err != api.OK {
			t.Fatal("a collect that is alone was refused:", err)
		}
	}
	if w.freed-before != want || w.waits() != 0 {
		t.Fatalf("%d waited, %d were freed, %d are left", want, w.freed-before, w.waits())
	}
}

// waits is how many nodes wait.
func (w *world) waits() int {
	n := 0
	for k := range 3 {
		n += len(stack.Chain(w.waiting(k), w.m))
	}
	return n
}

// state tells one world from others that go on otherwise: an operation goes on by what its steps have found.
func (w *world) state(scripts []string) string {
	l := []any{scripts, w.m.Words(), w.knows}
	for _, c := range w.cores {
		l = append(l, c.at, c.has, c.index, c.moving, c.done)
	}
	return fmt.Sprint(l...)
}

// explored is what came of making all sequences of steps.
type explored struct {
	seen  map[string]bool
	freed bool
}

// explore makes all sequences of steps in which each core makes the operations of its script; from states in which others have been, nothing new comes.
func (e *explored) explore(t *testing.T, w *world, scripts []string) {
	t.Helper()
	state := w.state(scripts)
	if e.seen[state] {
		return
	}
	e.seen[state] = true
	w.checkAlone(t)
	w.checkEmptied(t)
	e.freed = e.freed || w.freed > 0
	ended := true
	for at, script := range scripts {
		if w.cores[at].doing == nil && script == "" {
			continue
		}
		ended = false
		next, rest := w.copied(), slices.Clone(scripts)
		if next.cores[at].doing == nil {
			next.begin(at, script[0])
			rest[at] = script[1:]
		}
		next.step(t, at)
		e.explore(t, next, rest)
	}
	if ended {
		w.checkLeft(t)
	}
}

// checkLeft has all cores unpin, so that everything can be freed.
func (w *world) checkLeft(t *testing.T) {
	t.Helper()
	w = w.copied()
	for at := range w.cores {
		w.make(t, at, "u")
	}
	if !w.checkEmptied(t) {
		t.Fatal("somebody is pinned:", w.m.Words())
	}
}

// make has a core make the operations of a script, alone.
func (w *world) make(t *testing.T, at int, script string) {
	t.Helper()
	for i := range len(script) {
		w.begin(at, script[i])
		for !w.step(t, at) {
		}
	}
}

// P13.3, P13.4, P6: in whatever order the steps of a few operations are made, from states in which cores have nodes or are pinned already.
func TestAllOrders(t *testing.T) {
	for _, c := range []struct {
		size, limit    int
		ahead, scripts []string
		freed          bool
	}{
		{1, 9, []string{"ap", ""}, []string{"rc", "pa"}, false},
		{1, 9, []string{"ap", ""}, []string{"rcpcpca", "pa"}, true},
		{1, 9, []string{"ap", ""}, []string{"ru", "pcpcpca"}, true},
		{1, 1, []string{"ap", ""}, []string{"rupcu", "pcpcpca"}, true},
		{2, 9, []string{"ap", "ap"}, []string{"rcupc", "rcupc"}, true},
		{2, 2, []string{"ap", "p"}, []string{"rcpcpca", "cpcpca"}, true},
		{2, 9, []string{"aaprr", "p"}, []string{"cpcpc", "cpcpc"}, true},
		{3, 9, []string{"aaprr", "ap"}, []string{"cpc", "rcpc"}, true},
		{2, 1, []string{"aprcu", "ap"}, []string{"pcu", "rcpc"}, true},
		{1, 9, []string{"ap", "", ""}, []string{"ru", "pcu", "pcu"}, true},
		{2, 9, []string{"ap", "ap", "p"}, []string{"r", "r", "c"}, false},
		{2, 9, []string{"apr", "p", "p"}, []string{"cu", "cu", "cu"}, false},
		{2, 9, []string{"aprc", "p", ""}, []string{"u", "cu", "pa"}, true},
	} {
		w := newWorld(t, c.size, c.limit, len(c.scripts))
		for at, script := range c.ahead {
			w.make(t, at, script)
		}
		e := explored{seen: map[string]bool{}}
		e.explore(t, w, c.scripts)
		if len(e.seen) < 50 || e.freed != c.freed {
			t.Errorf("%+v: %d states, freed %v", c, len(e.seen), e.freed)
		}
	}
}

// P13.3, P13.4, P6: long runs of several cores, which stop and continue anywhere, with nodes that are worn soon and late. Of those that are stepped in any order one ends.
func TestLongRuns(t *testing.T) {
	for _, c := range []struct{ size, limit, cores int }{{1, 900, 1}, {1, 900, 2}, {3, 1000, 2}, {3, 4, 3}, {5, 1000, 3}, {8, 40, 4}, {40, 9, 5}, {8, 1, 8}, {9, 9, 64}} {
		w, s, since, emptied := newWorld(t, c.size, c.limit, c.cores), script(c.size*100+c.cores), 0, 0
		for n := range 4000 {
			at := s.next(c.cores)
			if w.cores[at].doing == nil {
				w.begin(at, "aarrcccuup"[s.next(10)])
			}
			since++
			if w.step(t, at) {
				since = 0
			}
			if since > (c.cores+3+6*c.size)*c.cores {
				t.Fatalf("%d steps, and none has ended", since)
			}
			if n%40 == 0 {
				w.checkAlone(t)
				if w.checkEmptied(t) {
					emptied++
				}
			}
		}
		if c.cores <= 4 && (w.freed < min(20, c.size*c.limit/2) || emptied == 0) {
			t.Errorf("%+v: %d were freed, emptied %d times", c, w.freed, emptied)
		}
	}
}

// P13.3: while a core is pinned, nothing that is retired is allocated again, for however long; when it is not any more, everything is freed.
func TestStopped(t *testing.T) {
	w, s := newWorld(t, 6, 1000, 4), script(3)
	w.make(t, 0, "p")
	for range 5000 {
		at := 1 + s.next(3)
		if w.cores[at].doing == nil {
			w.begin(at, "arrcpu"[s.next(6)])
		}
		w.step(t, at)
	}
	for at := 1; at < 4; at++ {
		for w.cores[at].doing != nil && !w.step(t, at) {
		}
		for len(w.cores[at].has) > 0 {
			w.make(t, at, "pr")
		}
	}
	for at := 1; at < 4; at++ {
		w.make(t, at, "pcpcpcau")
		if len(w.cores[at].has) > 0 {
			t.Error("allocated again:", w.cores[at].has)
		}
	}
	if now := epoch.Now(w.l.E, w.m); now != 1 || w.freed != 0 || w.waits() != 6 {
		t.Errorf("now %d, %d freed, %d waiting", now, w.freed, w.waits())
	}
	w.checkLeft(t)
}
