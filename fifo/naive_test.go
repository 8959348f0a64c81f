package fifo_test

import (
	"slices"
	"testing"

	"coxswain/api"
	"coxswain/fifo"
)

// naive returns an operation's answer and the queue after it, in new memory; false where the kind has none.
func naive(room int, s []uint64, op api.Op) (api.Ans, []uint64, bool) {
	s = slices.Clone(s)
	switch {
	case op.Kind == api.OpPush && len(s) == room:
		return full, s, true
	case op.Kind == api.OpPush:
		return api.Ans{}, append(s, op.W), true
	case op.Kind != api.OpFront && op.Kind != api.OpDrop:
		return api.Ans{}, s, false
	case len(s) == 0:
		return none, s, true
	case op.Kind == api.OpFront:
		return is(s[0]), s, true
	}
	return api.Ans{}, s[1:], true
}

// naivePlay plays operations one by one; looked is called with the queue ahead of each.
func naivePlay(room int, l []api.Op, looked func([]uint64, api.Op)) ([]api.Ans, []uint64) {
	var s []uint64
	var answers []api.Ans
	for _, op := range l {
		looked(s, op)
		ans, after, _ := naive(room, s, op)
		answers, s = append(answers, ans), after
	}
	return answers, s
}

// checkPlay holds Play against the naive one.
func checkPlay(t *testing.T, room int, l []api.Op, looked func([]uint64, api.Op)) {
	t.Helper()
	answers, left, err := fifo.Play(room, l)
	wantAnswers, wantLeft := naivePlay(room, l, looked)
	if !slices.Equal(answers, wantAnswers) || !slices.Equal(left, wantLeft) || err != api.OK {
		t.Fatalf("room %d, %v: %v %v %v, want %v %v", room, l[:min(9, len(l))], answers, left, err, wantAnswers, wantLeft)
	}
	if len(left) > room || fifo.Check(room, left) != api.OK {
		t.Errorf("room %d: left %v", room, left)
	}
	checkOrder(t, l, answers, left)
}

// checkOrder is P6.4: what was the first one at each drop, followed by what is left, is what was pushed. Each drop in l must stand behind a front.
func checkOrder(t *testing.T, l []api.Op, answers []api.Ans, left []uint64) {
	t.Helper()
	var in, out []uint64
	for i, op := range l {
		if answers[i].Err != api.OK {
			continue
		}
		switch op.Kind {
		case api.OpPush:
			in = append(in, op.W)
		case api.OpDrop:
			out = append(out, answers[i-1].W)
		}
	}
	if !slices.Equal(in, append(out, left...)) {
		t.Errorf("went in: %v, came out: %v, left: %v", in, out, left)
	}
}

// P6.2: all queues of up to 3 words, each in all rooms that it fits in, and each operation on them.
func TestAllQueues(t *testing.T) {
	words := []uint64{0, 1, 7}
	for length, many := 0, 1; length <= 3; length, many = length+1, many*3 {
		for n := range many {
			var s []uint64
			for range length {
				s = append(s, words[n%3])
				n /= 3
			}
			for room := max(1, length); room <= 5; room++ {
				for _, op := range []api.Op{push(0), push(7), front, drop} {
					ans, after, _ := naive(room, s, op)
					checkAnswer(t, room, s, op, ans, after)
				}
				checkNoAnswer(t, room, s, api.Op{Kind: api.OpAlloc, W: 1})
			}
		}
	}
}

// P6.3, P6.4: all lists of up to 7 operations, a drop always behind a front, in rooms of 1 to 4.
func TestAllPlays(t *testing.T) {
	for length, many := 0, 1; length <= 7; length, many = length+1, many*4 {
		for n := range many {
			var l []api.Op
			for i := range length {
				l = append(l, [][]api.Op{{push(uint64(i + 1))}, {front}, {front, drop}, {{Kind: api.OpLook}}}[n%4]...)
				n /= 4
			}
			for room := 1; room <= 4; room++ {
				checkPlay(t, room, l, func([]uint64, api.Op) {})
			}
		}
	}
}

// P6.2, P6.3, P6.4: long lists that fill and empty a queue again and again, so that its words lie everywhere in its array, once round and often.
func TestMixed(t *testing.T) {
	x := mixer(88172645463325252)
	for _, room := range []int{1, 2, 3, 5, 64, 1000, 1023, 1024} {
		l := x.ops(6*room+300, room)
		step := 0
		checkPlay(t, room, l, func(s []uint64, op api.Op) {
			if step++; step%max(1, room/20) == 0 {
				if ans, after, has := naive(room, s, op); has {
					checkAnswer(t, room, s, op, ans, after)
				}
			}
		})
	}
}

// P6.3: the words of a queue go round its array many times.
func TestRound(t *testing.T) {
	for _, room := range []int{1, 2, 3, 7, 1024} {
		var l []api.Op
		for i := range uint64(3000 + room) {
			l = append(l, push(i))
			if i >= uint64(room)-1 {
				l = append(l, push(99999), front, drop)
			}
		}
		checkPlay(t, room, l, func([]uint64, api.Op) {})
	}
}

// mixer makes the same numbers in each run.
type mixer uint64

func (x *mixer) below(n int) int {
	*x ^= *x << 13
	*x ^= *x >> 7
	*x ^= *x << 17
	return int(uint64(*x) % uint64(n))
}

// ops makes a list in which pushes are more common for a while, then drops, each of which stands behind a front.
func (x *mixer) ops(length, room int) []api.Op {
	var l []api.Op
	for len(l) < length {
		pushes := 80
		if len(l)/(room+room/2+10)%2 == 1 {
			pushes = 10
		}
		switch n := x.below(100); {
		case n < pushes:
			l = append(l, push(uint64(x.below(1<<62))))
		case n < 95:
			l = append(l, front, drop)
		default:
			l = append(l, []api.Op{front, {Kind: x.below(20) + 4}}[x.below(2)])
		}
	}
	return l
}
