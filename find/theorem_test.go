package find_test

import (
	"fmt"
	"slices"
	"testing"

	"coxswain/api"
	"coxswain/cells"
	"coxswain/find"
	"coxswain/tower"
)

// item is a node of a list.
type item struct {
	node   int
	key    uint64
	height int // on how many levels it is
	least  int // from which level on it is marked
}

// list is a skip list as the theorems have it: keys ascend, who is on a level is on all levels below it, and who is marked there is marked above it.
type list struct {
	x     api.Tower
	cells int
	items []item
}

// newList has as many nodes as items, which it spreads over the nodes, and a few more that are in no list.
func newList(height, spare int, items ...item) *list {
	l := &list{items: items}
	l.x = api.Tower{Nodes: height + 2, Heads: 1, Height: height}
	l.x.Limbo.A.Free.Size = len(items) + spare
	l.cells = l.x.Nodes + l.x.Limbo.A.Free.Size*(4+height)
	return l
}

// ref is how all words name a node.
func ref(i int) uint64 { return uint64(3+i%5)<<16 | uint64(i+1) }

// on are the items of a level.
func (l *list) on(level int) []item {
	return slices.DeleteFunc(slices.Clone(l.items), func(i item) bool { return i.height <= level })
}

// mem is a memory with the list in it.
func (l *list) mem(t *testing.T) *cells.Mem {
	t.Helper()
	m := mem(t, l.cells)
	for level := range l.x.Height {
		before := -1
		marked := uint64(0)
		for _, i := range l.on(level) {
			m.Store(tower.Next(l.x, before, level), marked|ref(i.node))
			before, marked = i.node, 0
			if i.least <= level {
				marked = mark
			}
		}
		m.Store(tower.Next(l.x, before, level), marked)
	}
	for _, i := range l.items {
		m.Store(tower.At(l.x, i.node, api.PartKey), i.key)
	}
	return m
}

// finds is what a Find of a key that is alone comes to by P16.3, in how many steps, and which words it leaves.
func (l *list) finds(m *cells.Mem, key uint64) (found, int, []uint64) {
	f, steps, words := found{}, 0, m.Words()
	from := item{node: -1}
	for level := l.x.Height - 1; level >= 0; level-- {
		pred, succ := from, uint64(0)
		steps++
		for _, i := range l.on(level) {
			if from.node >= 0 && i.key <= from.key {
				continue
			}
			steps += 2
			if i.least <= level {
				continue
			}
			words[tower.Next(l.x, pred.node, level)] = ref(i.node)
			if i.key >= key {
				succ = ref(i.node)
				break
			}
			pred = i
		}
		words[tower.Next(l.x, pred.node, level)] = succ
		known := uint64(0)
		if pred.node >= 0 {
			known = ref(pred.node)
		}
		f.preds, f.succs, f.known = append(f.preds, pred.node), append(f.succs, succ), append(f.known, known)
		from = pred
	}
	slices.Reverse(f.preds)
	slices.Reverse(f.succs)
	slices.Reverse(f.known)
	return f, steps, words
}

// list is one of so many nodes, some of which are marked, and some of these have been taken off their upper levels.
func (s *script) list(many int) *list {
	height := 1 + s.next(4)
	l := newList(height, 1+s.next(2))
	l.x.Limbo.A.Free.Size += many
	l.cells += many * (4 + height)
	key := uint64(s.next(3))
	for n := range many {
		i := item{node: n, key: key, height: 1 + s.next(height)}
		i.least = i.height
		if s.next(3) == 0 {
			i.least = s.next(i.height + 1)
			i.height = max(i.least, i.height-s.next(3), 1)
		}
		l.items = append(l.items, i)
		key += 1 + uint64(s.next(3))
	}
	for n := range l.items {
		o := n + s.next(many-n)
		l.items[n].node, l.items[o].node = l.items[o].node, l.items[n].node
	}
	return l
}

// P16.3, P16.5: what a Find that is alone finds, and what it takes off, from lists of all kinds.
func TestAlone(t *testing.T) {
	s, removed := script(163), 0
	for n := range 6000 {
		many := s.next(9)
		if n%200 == 0 {
			many = 100 + s.next(27)
		}
		l := s.list(many)
		size := l.x.Limbo.A.Free.Size
		m := l.mem(t)
		for range 3 {
			key := uint64(s.next(2*many + 4))
			c := m.Copy()
			want, steps, words := l.finds(c, key)
			x := find.NewFind(l.x, key)
			if got := run(x, c); got != steps || got > l.x.Height*(2*size+1) {
				t.Fatalf("%+v: find %d: %d steps, want %d", l, key, got, steps)
			}
			checkCame(t, x, x.By(), api.OK, want)
			if !slices.Equal(c.Words(), words) {
				t.Fatalf("%+v: find %d: %x, want %x", l, key, c.Words(), words)
			}
			if !slices.Equal(words, m.Words()) {
				removed++
			}
		}
	}
	if removed < 1000 {
		t.Error("taken off in", removed)
	}
}

// marker marks a node, from the top level on which it is down to the level 0.
type marker struct {
	x      api.Tower
	i, l   int
	w      uint64
	loaded bool
}

func (k *marker) Step(m *cells.Mem) bool {
	at := tower.Next(k.x, k.i, k.l)
	switch {
	case k.l < 0:
		return true
	case !k.loaded:
		k.w = m.Load(at)
		k.loaded = k.w < mark
		if !k.loaded {
			k.l--
		}
	default:
		k.loaded = false
		if m.CAS(at, k.w, k.w|mark) {
			k.l--
		}
	}
	return k.l < 0
}

// deed is what somebody is to do: find a key, or mark a node.
type deed struct {
	finds bool
	key   uint64
	node  item
}

func finds(key uint64) deed { return deed{finds: true, key: key} }

func marks(i item) deed { return deed{node: i} }

// doer is who does deeds, one after the other: what it is doing, if anything, is the one or the other.
type doer struct {
	left []deed
	key  uint64
	find *find.Find
	mark *marker
}

func (d *doer) idle() bool { return d.find == nil && d.mark == nil }

// world is a list that several change; each step is held against the theorems.
type world struct {
	x     api.Tower
	m     *cells.Mem
	doers []doer
	cuts  int // how many nodes were taken off a level
}

func newWorld(t *testing.T, l *list, deeds ...[]deed) *world {
	t.Helper()
	w := &world{x: l.x, m: l.mem(t)}
	for _, d := range deeds {
		w.doers = append(w.doers, doer{left: d})
	}
	return w
}

// copied goes on by itself, so that one step can be made in more than one way.
func (w *world) copied() *world {
	other := *w
	other.m, other.doers = w.m.Copy(), slices.Clone(w.doers)
	for i := range other.doers {
		d := &other.doers[i]
		if d.find != nil {
			f := *d.find
			d.find = &f
		}
		if d.mark != nil {
			k := *d.mark
			d.mark = &k
		}
	}
	return &other
}

func (w *world) levels() [][]int {
	var l [][]int
	for level := range w.x.Height {
		l = append(l, tower.Level(w.x, level, w.m))
	}
	return l
}

// step makes the next step of somebody, and reports whether what he does has ended with it.
func (w *world) step(t *testing.T, at int) bool {
	t.Helper()
	d := &w.doers[at]
	if d.idle() {
		next := d.left[0]
		d.left = d.left[1:]
		if next.finds {
			d.find, d.key = find.NewFind(w.x, next.key), next.key
		} else {
			d.mark = &marker{x: w.x, i: next.node.node, l: next.node.height - 1}
		}
	}
	levels, words, count := w.levels(), w.m.Words(), w.m.Count()
	ended := false
	if d.find != nil {
		ended = d.find.Step(w.m)
		w.checkCut(t, levels, words)
	} else {
		ended = d.mark.Step(w.m)
		w.checkLevels(t, levels)
	}
	if w.m.Count() != count+1 {
		t.Fatal("a step is one access")
	}
	if ended && d.find != nil {
		w.checkFound(t, d)
	}
	if ended {
		d.find, d.mark = nil, nil
	}
	return ended
}

// checkLevels sees to it that each level has these nodes.
func (w *world) checkLevels(t *testing.T, want [][]int) {
	t.Helper()
	for level, l := range w.levels() {
		if !slices.Equal(l, want[level]) {
			t.Fatalf("%+v: level %d: %v, want %v", w.m.Last(), level, l, want[level])
		}
	}
}

// checkCut sees to it that the last step, which was a Find's, has changed nothing, or has taken one node off one level, on which it was marked (P16.4).
func (w *world) checkCut(t *testing.T, levels [][]int, words []uint64) {
	t.Helper()
	last := w.m.Last()
	if last.Kind == api.AccessCAS && last.Held {
		_, part, _ := tower.Whose(w.x, last.At)
		level := part - api.PartNext
		at := slices.IndexFunc(levels[level], func(i int) bool { return ref(i) == last.Old })
		if at < 0 {
			t.Fatalf("%+v: nothing is taken off", last)
		}
		if i := levels[level][at]; words[tower.Next(w.x, i, level)] < mark {
			t.Fatalf("%+v: the node %d is not marked", last, i)
		}
		levels[level] = slices.Delete(levels[level], at, at+1)
		words[last.At] = last.New
		w.cuts++
	}
	if !slices.Equal(w.m.Words(), words) {
		t.Fatalf("%+v has changed something else", last)
	}
	w.checkLevels(t, levels)
}

// checkFound sees to it that a Find that has ended lies where its key is: preds are below it, succs are not (P16.4).
func (w *world) checkFound(t *testing.T, d *doer) {
	t.Helper()
	preds, succs, known := d.find.Preds(), d.find.Succs(), d.find.Known()
	if d.find.Err() != api.OK || len(preds) != w.x.Height || len(succs) != w.x.Height || len(known) != w.x.Height {
		t.Fatalf("ended with %v, %v %x %x", d.find.Err(), preds, succs, known)
	}
	for level, i := range preds {
		n, is := tower.Node(w.x, i, w.m)
		if is != (i >= 0) || is && (n.Key >= d.key || known[level] != ref(i)) || !is && known[level] != 0 {
			t.Fatalf("find %d: level %d: pred %d of the key %d, known by %x", d.key, level, i, n.Key, known[level])
		}
		if succs[level] == 0 {
			continue
		}
		i := int(succs[level]&0xffff) - 1
		if n, _ := tower.Node(w.x, i, w.m); n.Key < d.key || succs[level] != ref(i) {
			t.Fatalf("find %d: level %d: succ %x of the key %d", d.key, level, succs[level], n.Key)
		}
	}
}

// checkAlone has each Find that is under way continue alone, and returns how many steps the longest of these needs (P16.5).
func (w *world) checkAlone(t *testing.T) int {
	t.Helper()
	longest, most := 0, 2*w.x.Height*(2*w.x.Limbo.A.Free.Size+1)
	for at, d := range w.doers {
		if d.find == nil {
			continue
		}
		alone, n := w.copied(), 1
		for !alone.step(t, at) {
			if n++; n > most {
				t.Fatalf("find %d: not ended alone after %d steps", d.key, most)
			}
		}
		longest = max(longest, n)
	}
	return longest
}

// state tells one world from others that go on otherwise.
func (w *world) state() string {
	l := []any{w.m.Words()}
	for _, d := range w.doers {
		l = append(l, len(d.left), d.key)
		if d.find != nil {
			l = append(l, *d.find)
		}
		if d.mark != nil {
			l = append(l, *d.mark)
		}
	}
	return fmt.Sprint(l...)
}

// explorer makes all sequences of steps; from states in which others have been, nothing new comes.
type explorer struct {
	seen    map[string]bool
	longest int
	cuts    int
}

func (e *explorer) explore(t *testing.T, w *world) {
	t.Helper()
	state := w.state()
	if e.seen[state] {
		return
	}
	e.seen[state] = true
	e.longest = max(e.longest, w.checkAlone(t))
	e.cuts = max(e.cuts, w.cuts)
	for at, d := range w.doers {
		if d.idle() && len(d.left) == 0 {
			continue
		}
		next := w.copied()
		next.step(t, at)
		e.explore(t, next)
	}
}

// P16.4, P16.5: in whatever order the steps of a few Finds are made, and of others who mark nodes.
func TestAllOrders(t *testing.T) {
	a, b, c := item{2, 10, 1, 1}, item{0, 20, 1, 1}, item{1, 30, 1, 1}
	high := func(i item, height int) item {
		i.height, i.least = height, height
		return i
	}
	half := item{0, 20, 2, 1}
	for n, c := range []struct {
		*world
		longest, cuts int // that are reached
	}{
		{newWorld(t, newList(1, 0, high(b, 1)), []deed{finds(20)}, []deed{finds(30)}, []deed{marks(b)}), 3, 1},
		{newWorld(t, newList(1, 0, a, b, c), []deed{finds(40)}, []deed{finds(25)}, []deed{marks(a), marks(b)}), 10, 2},
		{newWorld(t, newList(1, 0, a, b, c), []deed{finds(40)}, []deed{marks(a)}, []deed{marks(b)}, []deed{marks(c)}), 10, 3},
		{newWorld(t, newList(1, 1, a, b, c), []deed{finds(40)}, []deed{marks(b), finds(20)}, []deed{marks(a), finds(10)}), 10, 2},
		{newWorld(t, newList(2, 0, a, high(b, 2), c), []deed{finds(25)}, []deed{finds(20)}, []deed{marks(high(b, 2))}), 12, 2},
		{newWorld(t, newList(2, 1, high(a, 2), high(b, 2)), []deed{finds(30)}, []deed{marks(high(b, 2)), finds(20)}, []deed{marks(high(a, 2))}), 13, 4},
		{newWorld(t, newList(2, 0, high(a, 2), half, c), []deed{finds(30)}, []deed{finds(15)}, []deed{marks(half), marks(high(a, 2))}), 15, 4},
		{newWorld(t, newList(3, 1, high(a, 3), b, high(c, 2)), []deed{finds(31)}, []deed{marks(high(a, 3))}, []deed{marks(high(c, 2))}), 17, 5},
		{newWorld(t, newList(4, 1, high(a, 4), high(b, 3)), []deed{finds(25)}, []deed{marks(high(a, 4)), finds(10)}), 18, 4},
	} {
		e := explorer{seen: map[string]bool{}}
		e.explore(t, c.world)
		if e.longest != c.longest || e.cuts != c.cuts {
			t.Errorf("%d: the longest one has %d steps, %d nodes are taken off", n, e.longest, e.cuts)
		}
	}
}

// P16.4, P16.5: long runs of Finds, and of others who mark nodes, some of which stop for good; those that continue end.
func TestLongRuns(t *testing.T) {
	for _, c := range []struct{ many, doers, deeds int }{{1, 2, 40}, {5, 3, 30}, {20, 4, 40}, {60, 8, 40}, {124, 12, 30}} {
		s := script(c.many*100 + c.doers)
		l := s.list(c.many)
		for n := range l.items {
			l.items[n].least = l.items[n].height
		}
		deeds := make([][]deed, c.doers)
		for at := range deeds {
			for range c.deeds {
				d := finds(uint64(s.next(3 * c.many)))
				if at > 0 && s.next(3) == 0 {
					d = marks(l.items[s.next(c.many)])
				}
				deeds[at] = append(deeds[at], d)
			}
		}
		w := newWorld(t, l, deeds...)
		w.run(t, &s)
		if w.cuts < c.many/4 {
			t.Errorf("%+v: %d were taken off", c, w.cuts)
		}
		w.checkRest(t)
	}
}

// run makes steps till nobody has anything left to do, but for one who stops now and then, within a deed.
func (w *world) run(t *testing.T, s *script) {
	t.Helper()
	for n := 0; ; n++ {
		var may []int
		for at, d := range w.doers {
			if !d.idle() || len(d.left) > 0 {
				may = append(may, at)
			}
		}
		if len(may) == 0 {
			return
		}
		at := may[s.next(len(may))]
		w.step(t, at)
		if n%50 == 0 {
			w.checkAlone(t)
		}
		if d := &w.doers[at]; n%400 == 399 && !d.idle() && at > 0 {
			d.left, d.find, d.mark = nil, nil, nil
		}
	}
}

// checkRest sees to it that a Find behind all keys, on a level on which each node is marked, takes all of them off.
func (w *world) checkRest(t *testing.T) {
	t.Helper()
	for level := w.x.Height - 1; level >= 0; level-- {
		for _, i := range tower.Level(w.x, level, w.m) {
			at := tower.Next(w.x, i, level)
			w.m.Store(at, w.m.Words()[at]|mark)
		}
	}
	w.doers = append(w.doers, doer{left: []deed{finds(api.Idle)}})
	for !w.step(t, len(w.doers)-1) {
	}
	for level, l := range w.levels() {
		if len(l) > 0 {
			t.Errorf("level %d: %v", level, l)
		}
	}
}
