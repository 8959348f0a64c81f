package fifo_test

import (
	"math"
	"slices"
	"testing"

	"coxswain/api"
	"coxswain/fifo"
)

var (
	front = api.Op{Kind: api.OpFront}
	drop  = api.Op{Kind: api.OpDrop}
	full  = api.Ans{Err: api.ErrFull}
	none  = api.Ans{Err: api.ErrNone}
)

func push(w uint64) api.Op { return api.Op{Kind: api.OpPush, W: w} }

func is(w uint64) api.Ans { return api.Ans{W: w} }

// counted makes n words, each another one.
func counted(n int) []uint64 {
	var s []uint64
	for i := range n {
		s = append(s, uint64(i)*3+1)
	}
	return s
}

// checkAnswer holds the answer to an operation, and the queue after it, against what is wanted.
func checkAnswer(t *testing.T, room int, s []uint64, op api.Op, ans api.Ans, after []uint64) {
	t.Helper()
	if got, has := fifo.Answer(room, s, op); got != ans || !has {
		t.Errorf("room %d, %v, %v: %v %v, want %v", room, s, op, got, has, ans)
	}
	if got, has := fifo.Next(room, s, op, ans); !slices.Equal(got, after) || !has {
		t.Errorf("room %d, %v, %v: next %v %v, want %v", room, s, op, got, has, after)
	}
	for _, wrong := range others(ans) {
		if got, has := fifo.Next(room, s, op, wrong); len(got) != 0 || has {
			t.Errorf("room %d, %v, %v: next of %v: %v", room, s, op, wrong, got)
		}
	}
}

// others returns answers that are not this one, each by one field.
func others(a api.Ans) []api.Ans {
	var l []api.Ans
	for _, err := range []api.Errno{api.OK, api.ErrFull, api.ErrNone, api.ErrRange, -1} {
		l = append(l, api.Ans{Err: err, N: a.N, W: a.W})
	}
	for _, n := range []int{0, 1, -1, math.MaxInt} {
		l = append(l, api.Ans{Err: a.Err, N: n, W: a.W})
	}
	for _, w := range []uint64{0, 1, a.W + 1, ^a.W} {
		l = append(l, api.Ans{Err: a.Err, N: a.N, W: w})
	}
	return slices.DeleteFunc(l, func(b api.Ans) bool { return b == a })
}

// checkNoAnswer holds an operation that has no answer against any answer that one could be given.
func checkNoAnswer(t *testing.T, room int, s []uint64, op api.Op) {
	t.Helper()
	if got, has := fifo.Answer(room, s, op); got != (api.Ans{}) || has {
		t.Errorf("room %d, %d words, %v: %v %v", room, len(s), op, got, has)
	}
	for _, ans := range append(others(api.Ans{}), api.Ans{}, is(5), is(op.W)) {
		if got, has := fifo.Next(room, s, op, ans); len(got) != 0 || has {
			t.Errorf("room %d, %d words, %v: next of %v: %v", room, len(s), op, ans, got)
		}
	}
}

// P6.1, P6.2: the chapter's examples.
func TestExample(t *testing.T) {
	two, one := []uint64{5, 7}, []uint64{5}
	checkAnswer(t, 2, two, push(9), full, two)
	checkAnswer(t, 2, two, front, is(5), two)
	checkAnswer(t, 2, two, drop, api.Ans{}, []uint64{7})
	checkNoAnswer(t, 2, two, api.Op{Kind: api.OpPut})
	checkAnswer(t, 2, one, push(9), api.Ans{}, []uint64{5, 9})
	checkAnswer(t, 2, one, front, is(5), one)
	checkAnswer(t, 2, one, drop, api.Ans{}, nil)
	checkAnswer(t, 2, nil, drop, none, nil)
	checkAnswer(t, 2, nil, front, none, nil)
	for _, x := range []struct {
		op  api.Op
		ans api.Ans
	}{{push(9), full}, {front, is(6)}} {
		if got, has := fifo.Next(2, one, x.op, x.ans); len(got) != 0 || has {
			t.Errorf("next of %v, %v: %v %v", x.op, x.ans, got, has)
		}
	}
	if a, b, c := fifo.Check(0, nil), fifo.Check(1025, nil), fifo.Check(1, two); a != api.ErrRange || b != api.ErrRange || c != api.ErrFull {
		t.Error("check:", a, b, c)
	}
}

// P6.3: the chapter's example.
func TestPlayExample(t *testing.T) {
	answers, left, err := fifo.Play(2, []api.Op{push(1), push(2), push(3), front, drop, push(3), drop})
	want := []api.Ans{{}, {}, full, is(1), {}, {}, {}}
	if !slices.Equal(answers, want) || !slices.Equal(left, []uint64{3}) || err != api.OK {
		t.Error(answers, left, err)
	}
}

// P6.1: rooms that there are and that there are not, and queues with as many words as they have room for, and with one more; the room is looked at first.
func TestCheck(t *testing.T) {
	for _, room := range []int{1, 2, 3, 1023, 1024} {
		for _, x := range []struct {
			many int
			want api.Errno
		}{{0, api.OK}, {room - 1, api.OK}, {room, api.OK}, {room + 1, api.ErrFull}, {room + 2, api.ErrFull}, {5000, api.ErrFull}} {
			if got := fifo.Check(room, counted(x.many)); got != x.want {
				t.Errorf("room %d, %d words: %v, want %v", room, x.many, got, x.want)
			}
		}
	}
	for _, room := range []int{0, -1, 1025, 1 << 32, 1<<32 + 1, -1024, math.MinInt, math.MaxInt} {
		for _, many := range []int{0, 1, 1025} {
			if got := fifo.Check(room, counted(many)); got != api.ErrRange {
				t.Errorf("room %d, %d words: %v", room, many, got)
			}
		}
	}
}

// P6.2: a queue that is not valid has no answers, and none after it.
func TestRefused(t *testing.T) {
	for _, x := range []struct{ room, many int }{{0, 0}, {0, 1}, {-1, 0}, {1025, 0}, {1025, 3}, {math.MinInt, 0}, {math.MaxInt, 2}, {1, 2}, {2, 3}, {1024, 1025}, {3, 5000}} {
		for _, op := range []api.Op{push(9), front, drop, {}} {
			checkNoAnswer(t, x.room, counted(x.many), op)
		}
	}
}

// P6.2: of all kinds of operations only three have an answer.
func TestKinds(t *testing.T) {
	for _, kind := range []int{0, -1, -2, -3, api.OpPut, api.OpPick, api.OpLook, api.OpAlloc, api.OpFree, 9, 10, 11, 1<<32 + 1, math.MinInt, math.MaxInt} {
		for _, s := range [][]uint64{nil, {5}, {5, 7}} {
			checkNoAnswer(t, 2, s, api.Op{Kind: kind, A: 1, B: 2, W: 3})
		}
	}
}

// P6.2: words are any, and of an operation only the kind and the word of a push count.
func TestFields(t *testing.T) {
	for _, w := range []uint64{0, 1, 1 << 63, math.MaxUint64} {
		s := []uint64{w, ^w, w}
		checkAnswer(t, 4, s, api.Op{Kind: api.OpPush, A: -1, B: 9, W: w}, api.Ans{}, []uint64{w, ^w, w, w})
		checkAnswer(t, 3, s, api.Op{Kind: api.OpPush, A: 3, B: -9, W: w}, full, s)
		checkAnswer(t, 3, s, api.Op{Kind: api.OpFront, A: 4, B: 5, W: ^w}, is(w), s)
		checkAnswer(t, 3, s, api.Op{Kind: api.OpDrop, A: 6, B: 7, W: ^w}, api.Ans{}, s[1:])
		checkAnswer(t, 3, nil, api.Op{Kind: api.OpFront, A: 4, B: 5, W: w}, none, nil)
		checkAnswer(t, 3, nil, api.Op{Kind: api.OpDrop, A: 4, B: 5, W: w}, none, nil)
	}
}

// P6.2: the greatest queues.
func TestGreatest(t *testing.T) {
	s := counted(1024)
	checkAnswer(t, 1024, s, push(9), full, s)
	checkAnswer(t, 1024, s, front, is(s[0]), s)
	checkAnswer(t, 1024, s, drop, api.Ans{}, s[1:])
	checkAnswer(t, 1024, s[:1023], push(s[1023]), api.Ans{}, s)
}

// P6.3: rooms that there are not, whatever is to be played; no operations; and kinds without an answer, which change nothing.
func TestPlay(t *testing.T) {
	for _, room := range []int{0, -1, 1025, math.MinInt, math.MaxInt} {
		for _, l := range [][]api.Op{nil, {}, {push(1), front}, {{Kind: api.OpPut}}} {
			if answers, left, err := fifo.Play(room, l); len(answers) != 0 || len(left) != 0 || err != api.ErrRange {
				t.Errorf("room %d, %v: %v %v %v", room, l, answers, left, err)
			}
		}
	}
	for _, room := range []int{1, 2, 1024} {
		for _, l := range [][]api.Op{nil, {}} {
			if answers, left, err := fifo.Play(room, l); len(answers) != 0 || len(left) != 0 || err != api.OK {
				t.Errorf("room %d, nothing: %v %v %v", room, answers, left, err)
			}
		}
	}
	put, other := api.Op{Kind: api.OpPut, W: 8}, api.Op{Kind: -7, A: 1, W: 9}
	answers, left, err := fifo.Play(2, []api.Op{put, front, other, push(4), put, front, other, drop, other, drop, put})
	want := []api.Ans{{}, none, {}, {}, {}, is(4), {}, {}, {}, none, {}}
	if !slices.Equal(answers, want) || len(left) != 0 || err != api.OK {
		t.Error(answers, left, err)
	}
}

// P6.2, P6.3: what is handed out is new memory, and what is handed in stays as it is, to the end of its room.
func TestOwn(t *testing.T) {
	words, ops := counted(6), []api.Op{push(1), push(2), front, drop, push(3), drop, push(4)}
	beforeWords, beforeOps := slices.Clone(words), slices.Clone(ops)
	for range 2 {
		var out [][]uint64
		for _, x := range []struct {
			op  api.Op
			ans api.Ans
		}{{push(9), api.Ans{}}, {front, is(1)}, {drop, api.Ans{}}} {
			l, has := fifo.Next(5, words[:4], x.op, x.ans)
			if !has {
				t.Error(x.op)
			}
			out = append(out, l)
		}
		refused, _ := fifo.Next(4, words[:4], push(9), full)
		answers, left, _ := fifo.Play(2, ops[:5])
		if !slices.Equal(refused, words[:4]) || !slices.Equal(left, []uint64{2, 3}) || len(answers) != 5 {
			t.Error(refused, left, answers)
		}
		clear(answers[:cap(answers)])
		for _, l := range append(out, refused, left) {
			clear(l[:cap(l)])
		}
		if !slices.Equal(words, beforeWords) || !slices.Equal(ops, beforeOps) {
			t.Fatal("arguments:", words, ops)
		}
	}
}
