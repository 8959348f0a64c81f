package tower_test

import (
	"fmt"
	"slices"
	"testing"

	"coxswain/api"
	"coxswain/arena"
	"coxswain/cells"
	"coxswain/epoch"
	"coxswain/limbo"
	"coxswain/tower"
)

// owner is whose cell one is, and which part of that.
type owner struct{ i, part int }

// owners tells for each cell that a tower has beside its limbo whose it is, counted cell by cell.
func owners(x api.Tower) map[int]owner {
	l, at := map[int]owner{}, x.Heads
	for level := range x.Height {
		l[at] = owner{-1, 4 + level}
		at++
	}
	at = x.Nodes
	for i := range x.Limbo.A.Free.Size {
		for part := range 4 + x.Height {
			l[at] = owner{i, part}
			at++
		}
	}
	return l
}

// checkOwners holds the places that a tower of so many cells tells against those that are counted.
func checkOwners(t *testing.T, x api.Tower, n int) {
	t.Helper()
	l, places := owners(x), 0
	for at := -3; at < n+200; at++ {
		i, part, is := tower.Whose(x, at)
		o, has := l[at]
		if is != has || is && (owner{i, part}) != o || !is && (i != 0 || part != 0) {
			t.Fatalf("%+v: %d is %d's %d, %v; want %+v %v", x, at, i, part, is, o, has)
		}
	}
	for i := -3; i < x.Limbo.A.Free.Size+3; i++ {
		for part := -5; part < 14; part++ {
			at := tower.At(x, i, part)
			if tower.Next(x, i, part-4) != at && part >= 4 || tower.Next(x, i, part-4) != -1 && part < 4 {
				t.Fatalf("%+v: next %d, %d: %d", x, i, part-4, tower.Next(x, i, part-4))
			}
			if at == -1 {
				continue
			}
			places++
			if o, has := l[at]; !has || o != (owner{i, part}) {
				t.Fatalf("%+v: the part %d of %d is %d", x, part, i, at)
			}
		}
	}
	if want := x.Limbo.A.Free.Size*(4+x.Height) + x.Height; places != want || len(l) != want {
		t.Fatalf("%+v: %d places, want %d", x, places, want)
	}
}

// P15.2, P15.5: each cell of a valid tower has one owner, the right one, and none of the limbo's has one.
func TestOwners(t *testing.T) {
	checkOwners(t, small, 34)
	s := script(5)
	for n := range 1500 {
		size := 1 + s.next(6)
		if n%100 == 0 {
			size = []int{127, 128}[s.next(2)]
		}
		x, cells := s.tower(1+s.next(4), size, s.next(4))
		if err := tower.Fits(x, cells); err != api.OK {
			t.Fatal("fits:", err)
		}
		checkOwners(t, x, cells)
		for _, b := range blocks(&x)[2:] {
			for k := range b.many {
				if _, _, is := tower.Whose(x, *b.from+k); is {
					t.Fatalf("%+v: %d is the limbo's", x, *b.from+k)
				}
			}
		}
	}
}

// operation is what all kinds have in common.
type operation interface{ Step(*cells.Mem) bool }

// anyOperation is one of the limbo, or a lay.
func (s *script) anyOperation(x api.Tower) (operation, bool) {
	i, c := s.next(x.Limbo.A.Free.Size), s.next(x.Limbo.E.Cores)
	switch s.next(7) {
	case 0:
		return arena.NewAlloc(x.Limbo.A), true
	case 1:
		return arena.NewFree(x.Limbo.A, i), true
	case 2:
		return epoch.NewPin(x.Limbo.E, c), true
	case 3:
		return epoch.NewUnpin(x.Limbo.E, c), true
	case 4:
		return limbo.NewRetire(x.Limbo, i), true
	case 5:
		return limbo.NewCollect(x.Limbo, c, s.next(4)), true
	}
	return tower.NewLay(x, 0x10001+uint64(i), uint64(s.next(90)), i, 1+s.next(x.Height)), false
}

// P15.5: in a valid tower no step of the limbo's operations touches a cell that has an owner, and no step of a lay one that has none.
func TestLimboApart(t *testing.T) {
	s, seen := script(55), map[bool]int{}
	for range 400 {
		x, n := s.tower(1+s.next(4), 1+s.next(4), s.next(2))
		m := mem(t, n, 0)
		tower.Fill(x, m)
		for range 30 {
			op, free := s.anyOperation(x)
			for ended, steps := false, 0; !ended && steps < 200; steps++ {
				ended = op.Step(m)
				if _, _, is := tower.Whose(x, m.Last().At); is == free {
					t.Fatalf("%+v: %T: %+v", x, op, m.Last())
				}
				seen[free]++
			}
		}
	}
	if seen[true] < 1000 || seen[false] < 1000 {
		t.Error("seen:", seen)
	}
}

// laying is lays that are under way, of the nodes from 0 on, in one memory.
type laying struct {
	x     api.Tower
	m     *cells.Mem
	lays  []*tower.Lay
	refs  []uint64
	steps []int // how many each of them has made
}

// begun are so many lays in a tower whose cells all hold other words than those that are stored.
func begun(t *testing.T, height, many int) *laying {
	t.Helper()
	s := script(height)
	x, n := s.tower(height, many+1, 1)
	l := &laying{x: x, m: mem(t, n, 0), steps: make([]int, many)}
	for at := range n {
		l.m.Store(at, 0x7700000+uint64(at))
	}
	l.m.Store(tower.Next(x, -1, 0), uint64(many+1))
	l.m.Store(tower.Next(x, many, 0), 1)
	for i := range many {
		l.refs = append(l.refs, 0x30001+uint64(i))
		l.m.Store(tower.Next(x, i, 0), uint64(i+2)%uint64(many+1)|mark*uint64(i%2))
		l.lays = append(l.lays, tower.NewLay(x, l.refs[i], l.stores(i)[0], int(l.stores(i)[1]), int(l.stores(i)[2])))
	}
	return l
}

// stores is what the lay of a node stores.
func (l *laying) stores(i int) []uint64 {
	return []uint64{100 + uint64(i), 200 + uint64(i), 1 + uint64(i%l.x.Height), 2}
}

// copied goes on by itself, so that one step can be made in more than one way.
func (l *laying) copied() *laying {
	other := *l
	other.m, other.lays, other.steps = l.m.Copy(), slices.Clone(l.lays), slices.Clone(l.steps)
	for i, x := range l.lays {
		y := *x
		other.lays[i] = &y
	}
	return &other
}

// step makes the next step of a lay, which stores one part of its node, whatever the others have done.
func (l *laying) step(t *testing.T, i int) {
	t.Helper()
	part := l.steps[i]
	at, was := tower.At(l.x, i, part), l.m.Words()
	level, live := tower.Level(l.x, 0, l.m), tower.Live(l.x, l.m)
	ended := l.lays[i].Step(l.m)
	l.steps[i]++
	if l.m.Last() != store(at, was[at], l.stores(i)[part]) || ended != (part == 3) || l.lays[i].By() != l.refs[i] {
		t.Fatalf("step %d of %d: %+v, %v, by %x", part, i, l.m.Last(), ended, l.lays[i].By())
	}
	was[at] = l.stores(i)[part]
	checkWords(t, l.m, was...)
	checkLevel(t, l.x, 0, l.m, level...)
	checkLive(t, l.x, l.m, live...)
}

// checkNodes sees to it that each node has what its own lay has stored so far, and nothing of others'.
func (l *laying) checkNodes(t *testing.T, first *cells.Mem) {
	t.Helper()
	for i := range l.x.Limbo.A.Free.Size {
		want, _ := tower.Node(l.x, i, first)
		if i < len(l.lays) {
			for part, p := range []*uint64{&want.Key, &want.Job, &want.High, &want.Hold} {
				if part < l.steps[i] {
					*p = l.stores(i)[part]
				}
			}
		}
		checkNode(t, l.x, i, l.m, want, true)
	}
}

// explore makes all sequences of steps; from states in which others have been, nothing new comes.
func (l *laying) explore(t *testing.T, first *cells.Mem, seen map[string]int) {
	t.Helper()
	state := fmt.Sprint(l.steps, l.m.Words())
	if seen[state]++; seen[state] > 1 {
		return
	}
	l.checkNodes(t, first)
	for i, n := range l.steps {
		if n < 4 {
			next := l.copied()
			next.step(t, i)
			next.explore(t, first, seen)
		}
	}
}

// P15.6: nodes that are laid at the same time do not affect each other, in whatever order steps are made: where each lay has made as many steps, the memory is the same.
func TestAllOrders(t *testing.T) {
	for height := 1; height <= 4; height++ {
		for many, states := range []int{1, 5, 25, 125} {
			l, seen := begun(t, height, many), map[string]int{}
			l.explore(t, l.m.Copy(), seen)
			if len(seen) != states {
				t.Errorf("%d lays: %d states", many, len(seen))
			}
		}
	}
}
