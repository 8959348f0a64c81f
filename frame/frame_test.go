package frame_test

import (
	"math"
	"slices"
	"testing"

	"coxswain/api"
	"coxswain/frame"
)

func frameOf(t *testing.T, cores int) *frame.Frame {
	t.Helper()
	f, err := frame.New(cores)
	if f == nil || err != api.OK {
		t.Fatalf("New(%d): %v %v", cores, f, err)
	}
	return f
}

// expect checks the answers of calls, which are made from left to right.
func expect(t *testing.T, what string, want api.Errno, got ...api.Errno) {
	t.Helper()
	for i, err := range got {
		if err != want {
			t.Errorf("%s, answer %d: %v, want %v", what, i, err, want)
		}
	}
}

func checkBusy(t *testing.T, f *frame.Frame, want ...int) {
	t.Helper()
	if got := f.Busy(); !slices.Equal(got, want) {
		t.Errorf("busy: %v, want %v", got, want)
	}
}

func checkWithin(t *testing.T, f *frame.Frame, core, what, steps int) {
	t.Helper()
	if got, is := f.What(core); got != what || !is {
		t.Errorf("core %d: what %d %v, want %d", core, got, is, what)
	}
	if got := f.Steps(core); got != steps {
		t.Errorf("core %d: steps %d, want %d", core, got, steps)
	}
}

func checkIdle(t *testing.T, f *frame.Frame, cores ...int) {
	t.Helper()
	for _, core := range cores {
		if got, is := f.What(core); got != 0 || is {
			t.Errorf("core %d: what %d %v, want none", core, got, is)
		}
		if got := f.Steps(core); got != 0 {
			t.Errorf("core %d: steps %d, want none", core, got)
		}
	}
}

func checkDone(t *testing.T, f *frame.Frame, all int, deeds ...api.Deed) {
	t.Helper()
	if got := f.All(); got != all {
		t.Errorf("all: %d, want %d", got, all)
	}
	if got := f.Deeds(); !slices.Equal(got, deeds) {
		t.Errorf("deeds: %v, want %v", got, deeds)
	}
}

// checkTurns holds every turn near 0, and those farthest from it, against the busy cores.
func checkTurns(t *testing.T, f *frame.Frame) {
	t.Helper()
	cores := f.Busy()
	numbers := []int{math.MinInt, math.MinInt + 1, math.MaxInt - 1, math.MaxInt}
	for n := -130; n <= 130; n++ {
		numbers = append(numbers, n)
	}
	for _, n := range numbers {
		want := -1
		if count := len(cores); count > 0 {
			i := n % count
			if i < 0 {
				i += count
			}
			want = cores[i]
		}
		if got := f.Turn(n); got != want {
			t.Errorf("turn %d of %v: %d, want %d", n, cores, got, want)
		}
	}
}

// P4.1: how many cores there may be, and that all of them are there, and not busy.
func TestNew(t *testing.T) {
	for _, cores := range []int{math.MinInt, -64, -1, 0, 65, 66, 128, 1 << 32, math.MaxInt} {
		if f, err := frame.New(cores); f != nil || err != api.ErrRange {
			t.Errorf("New(%d): %v %v", cores, f, err)
		}
	}
	for cores := 1; cores <= 64; cores++ {
		f := frameOf(t, cores)
		checkBusy(t, f)
		checkTurns(t, f)
		checkDone(t, f, 0)
		for core := range cores {
			checkIdle(t, f, core)
			expect(t, "Begin", api.OK, f.Begin(core, core))
		}
		expect(t, "past the last one", api.ErrRange, f.Begin(cores, 0))
	}
}

// P4.1: frames have nothing in common.
func TestNewApart(t *testing.T) {
	f, other := frameOf(t, 2), frameOf(t, 2)
	expect(t, "one", api.OK, f.Begin(1, 5), f.Step(1))
	checkBusy(t, other)
	checkDone(t, other, 0)
	expect(t, "other", api.OK, other.Begin(1, 6))
	checkWithin(t, f, 1, 5, 1)
	checkWithin(t, other, 1, 6, 0)
}

// P4.2: there is no such core, whatever is busy, and nothing changes by asking.
func TestNoCore(t *testing.T) {
	for _, cores := range []int{1, 3, 64} {
		f := frameOf(t, cores)
		checkNoCore(t, f, cores)
		expect(t, "the last core", api.OK, f.Begin(cores-1, 3))
		checkNoCore(t, f, cores)
		checkBusy(t, f, cores-1)
		checkWithin(t, f, cores-1, 3, 0)
		checkDone(t, f, 0)
	}
}

func checkNoCore(t *testing.T, f *frame.Frame, cores int) {
	t.Helper()
	for _, core := range []int{math.MinInt, -64, -1, cores, cores + 1, 65, 1 << 32, math.MaxInt} {
		expect(t, "no core", api.ErrRange, f.Begin(core, 1), f.Step(core), f.End(core))
		checkIdle(t, f, core)
	}
}

// P4.2, P4.3: the chapter's example.
func TestExample(t *testing.T) {
	f := frameOf(t, 3)
	got := []api.Errno{f.Begin(2, 7), f.Begin(0, 9), f.Begin(2, 1), f.Step(2), f.Step(2), f.Step(0), f.Step(1)}
	if !slices.Equal(got, []api.Errno{api.OK, api.OK, api.ErrBusy, api.OK, api.OK, api.OK, api.ErrNone}) {
		t.Error("first row:", got)
	}
	checkBusy(t, f, 0, 2)
	turns := []int{f.Turn(0), f.Turn(1), f.Turn(5), f.Turn(-1)}
	if !slices.Equal(turns, []int{0, 2, 2, 2}) {
		t.Error("turns:", turns)
	}
	checkWithin(t, f, 2, 7, 2)
	checkWithin(t, f, 0, 9, 1)
	checkIdle(t, f, 1)
	expect(t, "End", api.OK, f.End(2))
	expect(t, "End again", api.ErrNone, f.End(2))
	checkDone(t, f, 3, api.Deed{Core: 2, What: 7, Steps: 2})
	expect(t, "no core", api.ErrRange, f.Begin(3, 0), f.End(-1))
}

// P4.2: a refused Begin leaves the operation and its steps as they are.
func TestBeginBusy(t *testing.T) {
	f := frameOf(t, 2)
	expect(t, "first", api.OK, f.Begin(0, 4), f.Step(0), f.Step(0))
	for _, what := range []int{4, 0, -1, 9} {
		expect(t, "busy", api.ErrBusy, f.Begin(0, what))
		checkWithin(t, f, 0, 4, 2)
	}
	checkIdle(t, f, 1)
	checkDone(t, f, 2)
	expect(t, "the other", api.OK, f.Begin(1, 4))
	checkWithin(t, f, 1, 4, 0)
}

// P4.2: a core that is not busy makes no step, and ends nothing.
func TestIdle(t *testing.T) {
	f := frameOf(t, 3)
	expect(t, "never busy", api.ErrNone, f.Step(0), f.End(0), f.Step(2), f.End(2))
	checkDone(t, f, 0)
	expect(t, "once", api.OK, f.Begin(1, 8), f.Step(1), f.End(1))
	expect(t, "after it", api.ErrNone, f.Step(1), f.End(1), f.Step(1))
	checkDone(t, f, 1, api.Deed{Core: 1, What: 8, Steps: 1})
	checkIdle(t, f, 0, 1, 2)
}

// P4.2: an operation may have any number, and the one after it counts its steps from 0.
func TestAnew(t *testing.T) {
	f := frameOf(t, 1)
	var deeds []api.Deed
	all := 0
	for steps, what := range []int{0, 1, -1, math.MaxInt, math.MinInt, 0, 7, 7} {
		expect(t, "Begin", api.OK, f.Begin(0, what))
		checkWithin(t, f, 0, what, 0)
		for made := range steps {
			expect(t, "Step", api.OK, f.Step(0))
			checkWithin(t, f, 0, what, made+1)
		}
		checkDone(t, f, all+steps, deeds...)
		expect(t, "End", api.OK, f.End(0))
		checkIdle(t, f, 0)
		checkBusy(t, f)
		all += steps
		deeds = append(deeds, api.Deed{What: what, Steps: steps})
		checkDone(t, f, all, deeds...)
	}
}

// P4.2, P4.3: deeds come in the order in which they ended, not in that of cores or of beginnings.
func TestDeedsOrder(t *testing.T) {
	f := frameOf(t, 3)
	expect(t, "begin", api.OK, f.Begin(0, 10), f.Begin(1, 11), f.Begin(2, 12), f.Step(0))
	expect(t, "end", api.OK, f.End(1), f.End(2), f.Begin(1, 13), f.End(0), f.End(1))
	checkDone(t, f, 1, api.Deed{Core: 1, What: 11}, api.Deed{Core: 2, What: 12}, api.Deed{What: 10, Steps: 1}, api.Deed{Core: 1, What: 13})
}

// P4.3: busy cores are ascending, however they began; turns go round them.
func TestBusy(t *testing.T) {
	f := frameOf(t, 64)
	for _, core := range []int{63, 5, 0, 31, 32, 1} {
		expect(t, "Begin", api.OK, f.Begin(core, -core))
		checkTurns(t, f)
	}
	checkBusy(t, f, 0, 1, 5, 31, 32, 63)
	expect(t, "End", api.OK, f.End(5), f.End(0), f.End(63))
	checkBusy(t, f, 1, 31, 32)
	checkTurns(t, f)
	expect(t, "End", api.OK, f.End(1), f.End(31), f.End(32))
	checkBusy(t, f)
	checkTurns(t, f)
}

// P4.3: what is handed out is new memory.
func TestOwn(t *testing.T) {
	f := frameOf(t, 4)
	for core := range 3 {
		expect(t, "Begin", api.OK, f.Begin(core, 1), f.Step(core))
	}
	expect(t, "End", api.OK, f.End(0))
	for range 2 {
		cores, deeds := f.Busy(), f.Deeds()
		checkBusy(t, f, 1, 2)
		checkDone(t, f, 3, api.Deed{What: 1, Steps: 1})
		for i := range cores[:cap(cores)] {
			cores[:cap(cores)][i] = 3
		}
		for i := range deeds[:cap(deeds)] {
			deeds[:cap(deeds)][i].Core = 3
		}
	}
	before := f.Deeds()
	expect(t, "more", api.OK, f.End(1), f.End(2))
	checkDone(t, f, 3, api.Deed{What: 1, Steps: 1}, api.Deed{Core: 1, What: 1, Steps: 1}, api.Deed{Core: 2, What: 1, Steps: 1})
	if len(before) != 1 {
		t.Error("deeds of before:", before)
	}
}

// P4.2, P4.3: of a frame that nobody made.
func TestInvalid(t *testing.T) {
	for _, f := range []*frame.Frame{nil, {}} {
		for _, core := range []int{math.MinInt, -1, 0, 1, 64, math.MaxInt} {
			expect(t, "invalid", api.ErrNil, f.Begin(core, 1), f.Step(core), f.End(core))
			checkIdle(t, f, core)
		}
		checkBusy(t, f)
		checkTurns(t, f)
		checkDone(t, f, 0)
	}
}

// P4.4: the steps of deeds and of busy cores add up; each busy core has its turn once.
func checkTheorems(t *testing.T, f *frame.Frame) {
	t.Helper()
	sum := 0
	for _, d := range f.Deeds() {
		sum += d.Steps
	}
	cores := f.Busy()
	var turns []int
	for n, core := range cores {
		sum += f.Steps(core)
		turns = append(turns, f.Turn(n))
	}
	if all := f.All(); sum != all {
		t.Errorf("steps: %d of deeds and busy cores, %d in all", sum, all)
	}
	slices.Sort(turns)
	if !slices.Equal(turns, cores) {
		t.Errorf("turns: %v, busy: %v", turns, cores)
	}
}

// P4.2, P4.3, P4.4: long runs of calls, each held against a naive frame.
func TestMixed(t *testing.T) {
	x := mixer(88172645463325252)
	for _, cores := range []int{1, 2, 3, 7, 64} {
		f, model := frameOf(t, cores), naive{cores: cores, within: map[int]api.Deed{}}
		for range 1500 {
			core, what := x.below(cores+2)-1, x.below(9)-4
			switch x.below(5) {
			case 0, 1:
				expect(t, "Begin", model.begin(core, what), f.Begin(core, what))
			case 2, 3:
				expect(t, "Step", model.step(core), f.Step(core))
			case 4:
				expect(t, "End", model.end(core), f.End(core))
			}
			model.check(t, f)
			checkTheorems(t, f)
		}
		checkTurns(t, f)
	}
}

// naive is a frame as a map of the cores that are busy.
type naive struct {
	cores  int
	within map[int]api.Deed
	deeds  []api.Deed
	all    int
}

func (n *naive) asked(core int, other api.Errno) api.Errno {
	if core < 0 || core >= n.cores {
		return api.ErrRange
	}
	return other
}

func (n *naive) begin(core, what int) api.Errno {
	if _, is := n.within[core]; is {
		return n.asked(core, api.ErrBusy)
	}
	err := n.asked(core, api.OK)
	if err == api.OK {
		n.within[core] = api.Deed{Core: core, What: what}
	}
	return err
}

func (n *naive) step(core int) api.Errno {
	d, is := n.within[core]
	if !is {
		return n.asked(core, api.ErrNone)
	}
	d.Steps++
	n.all++
	n.within[core] = d
	return api.OK
}

func (n *naive) end(core int) api.Errno {
	d, is := n.within[core]
	if !is {
		return n.asked(core, api.ErrNone)
	}
	n.deeds = append(n.deeds, d)
	delete(n.within, core)
	return api.OK
}

func (n *naive) check(t *testing.T, f *frame.Frame) {
	t.Helper()
	var busy []int
	for core := range n.cores {
		d, is := n.within[core]
		if !is {
			checkIdle(t, f, core)
			continue
		}
		busy = append(busy, core)
		checkWithin(t, f, core, d.What, d.Steps)
	}
	checkBusy(t, f, busy...)
	checkDone(t, f, n.all, n.deeds...)
}

// mixer makes the same numbers in each run.
type mixer uint64

func (x *mixer) below(n int) int {
	*x ^= *x << 13
	*x ^= *x >> 7
	*x ^= *x << 17
	return int(uint64(*x) % uint64(n))
}
