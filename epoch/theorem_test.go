package epoch_test

import (
	"fmt"
	"slices"
	"testing"

	"coxswain/api"
	"coxswain/cells"
	"coxswain/epoch"
)

// core is who makes operations: at which epoch it is pinned, if any, and the operation in which it is, if any.
type core struct {
	at    int
	doing operation
	done  []api.Access // the steps of the operation
}

// world is cores that are pinned, advance and unpin, each step of which is held against the theorems.
type world struct {
	e     api.Epoch
	m     *cells.Mem
	cores []core
}

// newWorld has nobody pinned in an epoch that lies amid other cells.
func newWorld(t *testing.T, cores int) *world {
	t.Helper()
	e := api.Epoch{At: cores + 2, Pins: 1, Cores: cores}
	m, err := cells.New(cores + 4)
	if err != api.OK || epoch.Fits(e, m.Size()) != api.OK {
		t.Fatal("world:", err)
	}
	epoch.Fill(e, m)
	w := &world{e: e, m: m, cores: make([]core, cores)}
	for c := range w.cores {
		w.cores[c].at = -1
	}
	return w
}

// copied goes on by itself, so that one step can be made in more than one way.
func (w *world) copied() *world {
	other := &world{e: w.e, m: w.m.Copy(), cores: slices.Clone(w.cores)}
	for i := range other.cores {
		other.cores[i].doing = again(other.cores[i].doing)
	}
	return other
}

// again is an operation that is as far as another one.
func again(x operation) operation {
	switch x := x.(type) {
	case *epoch.Pin:
		y := *x
		return &y
	case *epoch.Unpin:
		y := *x
		return &y
	case *epoch.Advance:
		y := *x
		return &y
	}
	return nil
}

// begin has a core begin an operation of a kind (p: pin, u: unpin, a: advance); one that is not pinned cannot advance, and is pinned instead.
func (w *world) begin(at int, kind byte) {
	c := &w.cores[at]
	c.done = nil
	switch {
	case kind == 'u':
		c.doing = epoch.NewUnpin(w.e, at)
	case kind == 'a' && c.at >= 0:
		c.doing = epoch.NewAdvance(w.e, at, c.at)
	default:
		c.doing = epoch.NewPin(w.e, at)
	}
}

// step makes the next step of a core, and reports whether its operation has ended with it.
func (w *world) step(t *testing.T, at int) bool {
	t.Helper()
	c := &w.cores[at]
	before, count := epoch.Now(w.e, w.m), w.m.Count()
	ended := c.doing.Step(w.m)
	if w.m.Count() != count+1 {
		t.Fatal("a step is one access")
	}
	last := w.m.Last()
	c.done = append(c.done[:len(c.done):len(c.done)], last)
	if last.Kind == api.AccessStore {
		c.at = -1
	}
	advanced := 0
	if ended {
		pinned, err := outcome(c.doing)
		switch c.doing.(type) {
		case *epoch.Pin:
			c.at = pinned
		case *epoch.Advance:
			if err == api.OK {
				advanced = 1
			}
		}
		c.doing, c.done = nil, nil
	}
	if now := epoch.Now(w.e, w.m); now != before+advanced {
		t.Fatalf("%d advances, from %d to %d", advanced, before, now)
	}
	w.checkPinned(t)
	return ended
}

// checkPinned sees to it that the current epoch is that of each core that is pinned, or the next one (P12.4).
func (w *world) checkPinned(t *testing.T) {
	t.Helper()
	now, pinned := epoch.Now(w.e, w.m), epoch.Pinned(w.e, w.m)
	for i, c := range w.cores {
		if c.at < 0 {
			continue
		}
		if pinned[i] != c.at || now != c.at && now != c.at+1 {
			t.Fatalf("the core %d is pinned at %d, its pin is %d, now is %d", i, c.at, pinned[i], now)
		}
	}
}

// most is how many steps an operation that continues alone may need (P12.6).
func (w *world) most(x operation) int {
	switch x.(type) {
	case *epoch.Pin:
		return 4
	case *epoch.Unpin:
		return 1
	}
	return w.e.Cores + 1
}

// checkAlone has each operation that is under way continue alone, and advances begin (P12.5, P12.6).
func (w *world) checkAlone(t *testing.T) {
	t.Helper()
	for at, c := range w.cores {
		if c.doing != nil {
			alone, most := w.copied(), w.most(c.doing)
			for n := 1; !alone.step(t, at); n++ {
				if n == most {
					t.Fatalf("%T: not ended alone after %d steps", c.doing, n)
				}
			}
		}
		now := epoch.Now(w.e, w.m)
		for p := now - 1; p <= now+1; p++ {
			w.checkAdvance(t, at, p)
		}
	}
}

// checkAdvance has a core advance alone: it may at the current epoch, if no other core is pinned at another one (P12.5).
func (w *world) checkAdvance(t *testing.T, at, p int) {
	t.Helper()
	now, m, want := epoch.Now(w.e, w.m), w.m.Copy(), api.OK
	for c, pinned := range epoch.Pinned(w.e, w.m) {
		if c != at && pinned != -1 && pinned != now {
			want = api.ErrBusy
		}
	}
	if p != now {
		want = api.ErrBusy
	}
	x := epoch.NewAdvance(w.e, at, p)
	for n := 1; !x.Step(m); n++ {
		if n == w.e.Cores+1 {
			t.Fatalf("an advance has not ended after %d steps", n)
		}
	}
	if x.Err() != want {
		t.Fatalf("core %d at %d: %v, want %v, of %v", at, p, x.Err(), want, w.m.Words())
	}
}

// state tells one world from others that go on otherwise: an operation goes on by what its steps have found.
func (w *world) state(scripts []string) string {
	l := []any{scripts, w.m.Words()}
	for _, c := range w.cores {
		l = append(l, c.at, c.done)
	}
	return fmt.Sprint(l...)
}

// explore makes all sequences of steps in which each core makes the operations of its script; from states in which others have been, nothing new comes.
func explore(t *testing.T, w *world, scripts []string, seen map[string]bool) {
	t.Helper()
	state := w.state(scripts)
	if seen[state] {
		return
	}
	seen[state] = true
	w.checkAlone(t)
	for at, script := range scripts {
		if w.cores[at].doing == nil && script == "" {
			continue
		}
		next, rest := w.copied(), slices.Clone(scripts)
		if next.cores[at].doing == nil {
			next.begin(at, script[0])
			rest[at] = script[1:]
		}
		next.step(t, at)
		explore(t, next, rest, seen)
	}
}

// P12.4, P12.5, P12.6: in whatever order the steps of a few operations are made.
func TestAllOrders(t *testing.T) {
	for _, scripts := range [][]string{
		{"paaupaau"},
		{"pau", "pau"},
		{"paaupau", "paupaau"},
		{"pp", "paupau"},
		{"paupaupau", "ppu"},
		{"papa", "papa"},
		{"pau", "pau", "pau"},
		{"pu", "paupa", "pa"},
		{"p", "paua", "paua"},
		{"pa", "p", "p", "p"},
	} {
		seen := map[string]bool{}
		explore(t, newWorld(t, len(scripts)), scripts, seen)
		if len(seen) < 10 {
			t.Errorf("%v: %d states", scripts, len(seen))
		}
	}
}

// script is numbers that look as if they were random.
type script uint64

func (s *script) next(n int) int {
	*s = *s*6364136223846793005 + 1442695040888963407
	return int(*s>>33) % n
}

// P12.4, P12.5, P12.6: long runs of several cores, which stop and continue anywhere. The epoch gets far, for whoever is pinned is so for a while only.
func TestLongRuns(t *testing.T) {
	for _, cores := range []int{1, 2, 3, 5, 8, 64} {
		w, s := newWorld(t, cores), script(cores)
		for n := range 6000 {
			at := s.next(cores)
			if w.cores[at].doing == nil {
				w.begin(at, "pauuaau"[s.next(7)])
			}
			w.step(t, at)
			if n%50 == 0 {
				w.checkAlone(t)
			}
		}
		if now := epoch.Now(w.e, w.m); cores < 8 && now < 50 {
			t.Errorf("%d cores got to the epoch %d only", cores, now)
		}
	}
}

// P12.4: who is pinned lets the others go on by one epoch at most, for however long.
func TestStopped(t *testing.T) {
	w, s := newWorld(t, 4), script(3)
	w.begin(0, 'p')
	for !w.step(t, 0) {
	}
	for range 3000 {
		at := 1 + s.next(3)
		if w.cores[at].doing == nil {
			w.begin(at, "pau"[s.next(3)])
		}
		w.step(t, at)
	}
	if now := epoch.Now(w.e, w.m); now != 1 {
		t.Error("now:", now)
	}
}
