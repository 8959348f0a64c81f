package word_test

import (
	"cmp"
	"math"
	"testing"

	"coxswain/api"
	"coxswain/word"
)

const none = -1

// kind is a kind of word as the chapter tells it: what the tests hold Put and Get of that kind against.
type kind[V comparable] struct {
	name string
	put  func(V) (uint64, api.Errno)
	get  func(uint64) (V, api.Errno)
	mean func(w uint64) (V, bool) // the chapter's bits, read one by one
}

// bits are those from one to another of a word, both included, as a number.
func bits(w uint64, from, to int) int {
	n := 0
	for i := to; i >= from; i-- {
		n *= 2
		if w&(1<<i) != 0 {
			n++
		}
	}
	return n
}

var refs = kind[api.Ref]{"ref", word.PutRef, word.GetRef, func(w uint64) (api.Ref, bool) {
	r := api.Ref{Index: bits(w, 0, 15) - 1, Gen: bits(w, 16, 47), Mark: bits(w, 63, 63) == 1}
	if bits(w, 48, 62) != 0 || r.Index == none && r.Gen != 0 {
		return api.Ref{}, false
	}
	return r, true
}}

var tops = kind[api.Top]{"top", word.PutTop, word.GetTop, func(w uint64) (api.Top, bool) {
	return api.Top{Index: bits(w, 0, 15) - 1, Tag: bits(w, 16, 63)}, true
}}

var slots = kind[api.Slot]{"slot", word.PutSlot, word.GetSlot, func(w uint64) (api.Slot, bool) {
	s := api.Slot{Value: bits(w, 0, 15), Full: bits(w, 16, 16) == 1, Lap: bits(w, 32, 63)}
	if bits(w, 17, 31) != 0 || !s.Full && s.Value != 0 {
		return api.Slot{}, false
	}
	return s, true
}}

var keys = kind[api.Key]{"key", word.PutKey, word.GetKey, func(w uint64) (api.Key, bool) {
	k := api.Key{Round: bits(w, 0, 15), Seq: bits(w, 16, 55), Prio: bits(w, 56, 63)}
	if k.Prio == 255 {
		return api.Key{}, false
	}
	return k, true
}}

// checkWord holds Get of one word against its bits, and Put of what it means against the word.
func (k kind[V]) checkWord(t *testing.T, w uint64) {
	t.Helper()
	want, ok := k.mean(w)
	wantErr := api.OK
	if !ok {
		wantErr = api.ErrForm
	}
	if got, err := k.get(w); got != want || err != wantErr {
		t.Errorf("%s: get %x: %v %v, want %v %v", k.name, w, got, err, want, wantErr)
	}
	if !ok {
		return
	}
	if got, err := k.put(want); got != w || err != api.OK {
		t.Errorf("%s: put %v: %x %v, want %x", k.name, want, got, err, w)
	}
}

// row is a value, and the word or the error that Put has for it.
type row[V comparable] struct {
	v    V
	want uint64
	err  api.Errno
}

// checkRows holds Put against the rows, and Get against those that have a word.
func (k kind[V]) checkRows(t *testing.T, rows []row[V]) {
	t.Helper()
	for _, r := range rows {
		w, err := k.put(r.v)
		if w != r.want || err != r.err {
			t.Errorf("%s: put %v: %x %v, want %x %v", k.name, r.v, w, err, r.want, r.err)
		}
		if r.err != api.OK {
			continue
		}
		if v, err := k.get(r.want); v != r.v || err != api.OK {
			t.Errorf("%s: get %x: %v %v, want %v", k.name, r.want, v, err, r.v)
		}
	}
}

// manyWords are words with few bits, with all but few, with parts all of ones, and mixed ones from a fixed seed.
func manyWords() []uint64 {
	l := []uint64{0, math.MaxUint64}
	for i := range 64 {
		for j := range 64 {
			w := uint64(1)<<i | 1<<j
			l = append(l, w, ^w, 1<<i-1, 1<<i-1<<j)
		}
	}
	x := uint64(88172645463325252)
	for range 20000 {
		x ^= x << 13
		x ^= x >> 7
		x ^= x << 17
		// Masked ones meet the forms that a mixed word hardly ever has: bits that have to be 0, nothing in the lowest ones.
		l = append(l, x, x&0x8000ffffffffffff, x&^0xffff, x&0xffffffff0001ffff, x&^0xffff&^0x10000, x&0xffffffff0000ffff, x|0xff<<56)
	}
	return l
}

// P1.1: the words of refs, the edges of their fields, and what is refused.
func TestPutRef(t *testing.T) {
	refs.checkRows(t, []row[api.Ref]{
		{api.Ref{Index: 0, Gen: 1}, 0x10001, api.OK},
		{api.Ref{Index: 2, Gen: 5, Mark: true}, 0x8000000000050003, api.OK},
		{api.Ref{Index: none}, 0, api.OK},
		{api.Ref{Index: none, Mark: true}, 0x8000000000000000, api.OK},
		{api.Ref{}, 1, api.OK},
		{api.Ref{Mark: true}, 0x8000000000000001, api.OK},
		{api.Ref{Index: 65534}, 0xffff, api.OK},
		{api.Ref{Gen: 1<<32 - 1}, 0xffffffff0001, api.OK},
		{api.Ref{Index: 65534, Gen: 1<<32 - 1, Mark: true}, 0x8000ffffffffffff, api.OK},
		{api.Ref{Index: -2}, 0, api.ErrRange},
		{api.Ref{Index: 65535}, 0, api.ErrRange},
		{api.Ref{Gen: -1}, 0, api.ErrRange},
		{api.Ref{Gen: 1 << 32}, 0, api.ErrRange},
		{api.Ref{Index: math.MinInt}, 0, api.ErrRange},
		{api.Ref{Index: math.MaxInt, Mark: true}, 0, api.ErrRange},
		{api.Ref{Gen: math.MinInt}, 0, api.ErrRange},
		{api.Ref{Gen: math.MaxInt}, 0, api.ErrRange},
		{api.Ref{Index: none, Gen: 1}, 0, api.ErrForm},
		{api.Ref{Index: none, Gen: 1<<32 - 1, Mark: true}, 0, api.ErrForm},
		// Out of range comes ahead of a wrong form.
		{api.Ref{Index: none, Gen: -1}, 0, api.ErrRange},
		{api.Ref{Index: none, Gen: 1 << 32}, 0, api.ErrRange},
		{api.Ref{Index: -2, Gen: 1}, 0, api.ErrRange},
	})
}

// P1.1: the words of tops; none may have a tag.
func TestPutTop(t *testing.T) {
	tops.checkRows(t, []row[api.Top]{
		{api.Top{Index: 4, Tag: 7}, 0x70005, api.OK},
		{api.Top{}, 1, api.OK},
		{api.Top{Index: none}, 0, api.OK},
		{api.Top{Index: none, Tag: 1}, 0x10000, api.OK},
		{api.Top{Index: none, Tag: 1<<48 - 1}, 0xffffffffffff0000, api.OK},
		{api.Top{Index: 65534}, 0xffff, api.OK},
		{api.Top{Index: 65534, Tag: 1<<48 - 1}, math.MaxUint64, api.OK},
		{api.Top{Index: -2}, 0, api.ErrRange},
		{api.Top{Index: 65535}, 0, api.ErrRange},
		{api.Top{Tag: -1}, 0, api.ErrRange},
		{api.Top{Tag: 1 << 48}, 0, api.ErrRange},
		{api.Top{Index: math.MinInt}, 0, api.ErrRange},
		{api.Top{Index: math.MaxInt}, 0, api.ErrRange},
		{api.Top{Tag: math.MinInt}, 0, api.ErrRange},
		{api.Top{Index: none, Tag: math.MaxInt}, 0, api.ErrRange},
	})
}

// P1.1: the words of slots, full and empty.
func TestPutSlot(t *testing.T) {
	slots.checkRows(t, []row[api.Slot]{
		{api.Slot{Lap: 2, Full: true, Value: 9}, 0x200010009, api.OK},
		{api.Slot{Lap: 2}, 0x200000000, api.OK},
		{api.Slot{}, 0, api.OK},
		{api.Slot{Full: true}, 0x10000, api.OK},
		{api.Slot{Full: true, Value: 65535}, 0x1ffff, api.OK},
		{api.Slot{Lap: 1<<32 - 1}, 0xffffffff00000000, api.OK},
		{api.Slot{Lap: 1<<32 - 1, Full: true, Value: 65535}, 0xffffffff0001ffff, api.OK},
		{api.Slot{Full: true, Value: -1}, 0, api.ErrRange},
		{api.Slot{Full: true, Value: 65536}, 0, api.ErrRange},
		{api.Slot{Lap: -1}, 0, api.ErrRange},
		{api.Slot{Lap: 1 << 32}, 0, api.ErrRange},
		{api.Slot{Full: true, Value: math.MinInt}, 0, api.ErrRange},
		{api.Slot{Full: true, Value: math.MaxInt}, 0, api.ErrRange},
		{api.Slot{Lap: math.MinInt}, 0, api.ErrRange},
		{api.Slot{Lap: math.MaxInt}, 0, api.ErrRange},
		{api.Slot{Value: 5}, 0, api.ErrForm},
		{api.Slot{Value: 65535, Lap: 1<<32 - 1}, 0, api.ErrForm},
		// Out of range comes ahead of a wrong form.
		{api.Slot{Value: -1}, 0, api.ErrRange},
		{api.Slot{Value: 65536}, 0, api.ErrRange},
		{api.Slot{Value: 5, Lap: -1}, 0, api.ErrRange},
		{api.Slot{Value: 5, Lap: 1 << 32}, 0, api.ErrRange},
	})
}

// P1.1: the words of keys; the priority 255 is none.
func TestPutKey(t *testing.T) {
	keys.checkRows(t, []row[api.Key]{
		{api.Key{Prio: 1, Seq: 2, Round: 3}, 0x100000000020003, api.OK},
		{api.Key{}, 0, api.OK},
		{api.Key{Prio: 254}, 0xfe00000000000000, api.OK},
		{api.Key{Seq: 1<<40 - 1}, 0xffffffffff0000, api.OK},
		{api.Key{Round: 65535}, 0xffff, api.OK},
		{api.Key{Prio: 254, Seq: 1<<40 - 1, Round: 65535}, 0xfeffffffffffffff, api.OK},
		{api.Key{Prio: -1}, 0, api.ErrRange},
		{api.Key{Prio: 255}, 0, api.ErrRange},
		{api.Key{Prio: 256}, 0, api.ErrRange},
		{api.Key{Seq: -1}, 0, api.ErrRange},
		{api.Key{Seq: 1 << 40}, 0, api.ErrRange},
		{api.Key{Round: -1}, 0, api.ErrRange},
		{api.Key{Round: 65536}, 0, api.ErrRange},
		{api.Key{Prio: math.MinInt}, 0, api.ErrRange},
		{api.Key{Prio: math.MaxInt}, 0, api.ErrRange},
		{api.Key{Seq: math.MinInt}, 0, api.ErrRange},
		{api.Key{Seq: math.MaxInt}, 0, api.ErrRange},
		{api.Key{Round: math.MinInt}, 0, api.ErrRange},
		{api.Key{Round: math.MaxInt}, 0, api.ErrRange},
	})
}

// P1.2: words that nothing is put as; what they answer beside the error is the zero value, and not none.
func TestGetRefuses(t *testing.T) {
	for _, w := range []uint64{0x10000, 0xffffffff0000, 0x1000000000000, 0x1000000000001, 1<<62 | 1, 1 << 62, 1<<63 | 0x10000, 1<<63 | 1<<48 | 1, math.MaxUint64, api.Idle - 1} {
		if r, err := word.GetRef(w); r != (api.Ref{}) || err != api.ErrForm {
			t.Errorf("ref %x: %v %v", w, r, err)
		}
	}
	for _, w := range []uint64{9, 1, 0xffff, 1 << 17, 1 << 31, 1<<17 | 1<<16, 1<<31 | 1<<16 | 9, 0x200000009, math.MaxUint64} {
		if s, err := word.GetSlot(w); s != (api.Slot{}) || err != api.ErrForm {
			t.Errorf("slot %x: %v %v", w, s, err)
		}
	}
	for _, w := range []uint64{api.Idle, api.Idle - 1, 0xff00000000000000, 0xff00000000020003} {
		if k, err := word.GetKey(w); k != (api.Key{}) || err != api.ErrForm {
			t.Errorf("key %x: %v %v", w, k, err)
		}
	}
}

// P1.2: what Get has for none and for the least words.
func TestGetNone(t *testing.T) {
	if r, err := word.GetRef(0); r != (api.Ref{Index: none}) || err != api.OK {
		t.Error("ref 0:", r, err)
	}
	if r, err := word.GetRef(1 << 63); r != (api.Ref{Index: none, Mark: true}) || err != api.OK {
		t.Error("ref of the mark alone:", r, err)
	}
	if x, err := word.GetTop(0); x != (api.Top{Index: none}) || err != api.OK {
		t.Error("top 0:", x, err)
	}
	if x, err := word.GetTop(api.Idle); x != (api.Top{Index: 65534, Tag: api.MaxTag}) || err != api.OK {
		t.Error("top of ones:", x, err)
	}
	if s, err := word.GetSlot(0); s != (api.Slot{}) || err != api.OK {
		t.Error("slot 0:", s, err)
	}
	if k, err := word.GetKey(0); k != (api.Key{}) || err != api.OK {
		t.Error("key 0:", k, err)
	}
}

// P1.3: the mark is bit 63, whatever the rest of the word is.
func TestMarks(t *testing.T) {
	if word.Marks(1, true) != 0x8000000000000001 || word.Marked(1) {
		t.Error("the word 1")
	}
	for _, w := range manyWords() {
		if got, want := word.Marked(w), bits(w, 63, 63) == 1; got != want {
			t.Errorf("Marked(%x): %v", w, got)
		}
		if got, want := word.Marks(w, true), w|1<<63; got != want {
			t.Errorf("Marks(%x, true): %x", w, got)
		}
		if got, want := word.Marks(w, false), w&(1<<63-1); got != want {
			t.Errorf("Marks(%x, false): %x", w, got)
		}
	}
}

// P1.3 with P1.1: marking the word of a ref is the word of the marked ref.
func TestMarksRefs(t *testing.T) {
	for _, r := range []api.Ref{{}, {Index: none}, {Index: 2, Gen: 5}, {Index: 65534, Gen: api.MaxGen}} {
		plain, _ := word.PutRef(r)
		r.Mark = true
		marked, err := word.PutRef(r)
		if err != api.OK || word.Marks(plain, true) != marked || word.Marks(marked, false) != plain || word.Marked(plain) || !word.Marked(marked) {
			t.Errorf("%v: %x %x %v", r, plain, marked, err)
		}
	}
}

// P1.4: each word means one value of a kind, or none, as its bits say, and that value is put as this word alone.
func TestWordsMeanOne(t *testing.T) {
	for _, w := range manyWords() {
		refs.checkWord(t, w)
		tops.checkWord(t, w)
		slots.checkWord(t, w)
		keys.checkWord(t, w)
		if t.Failed() {
			return
		}
	}
}

// checkApart puts all values and reads them back: no two may share a word.
func (k kind[V]) checkApart(t *testing.T, values []V) {
	t.Helper()
	seen := map[uint64]V{}
	for _, v := range values {
		w, err := k.put(v)
		if err != api.OK {
			t.Errorf("%s: put %v: %v", k.name, v, err)
			continue
		}
		if other, ok := seen[w]; ok {
			t.Errorf("%s: %v and %v are both %x", k.name, v, other, w)
		}
		seen[w] = v
		if got, err := k.get(w); got != v || err != api.OK {
			t.Errorf("%s: put %v, got %v %v", k.name, v, got, err)
		}
	}
}

// edges are the numbers around the powers of 2 from least to most.
func edges(least, most int) []int {
	var l []int
	seen := map[int]bool{}
	add := func(n int) {
		if n >= least && n <= most && !seen[n] {
			seen[n] = true
			l = append(l, n)
		}
	}
	add(least)
	add(most)
	for p := 1; p <= most; p *= 2 {
		add(p - 1)
		add(p)
	}
	return l
}

// P1.4: Get returns what was put, over all combinations of edges.
func TestGetReturnsPut(t *testing.T) {
	var rs []api.Ref
	var ts []api.Top
	for _, i := range edges(-1, api.MaxIndex) {
		for _, g := range edges(0, api.MaxGen) {
			if i != none || g == 0 {
				rs = append(rs, api.Ref{Index: i, Gen: g}, api.Ref{Index: i, Gen: g, Mark: true})
			}
		}
		for _, g := range edges(0, api.MaxTag) {
			ts = append(ts, api.Top{Index: i, Tag: g})
		}
	}
	var ss []api.Slot
	for _, l := range edges(0, api.MaxLap) {
		ss = append(ss, api.Slot{Lap: l})
		for _, v := range edges(0, api.MaxValue) {
			ss = append(ss, api.Slot{Lap: l, Full: true, Value: v})
		}
	}
	refs.checkApart(t, rs)
	tops.checkApart(t, ts)
	slots.checkApart(t, ss)
	keys.checkApart(t, edgeKeys())
}

func edgeKeys() []api.Key {
	var l []api.Key
	for _, p := range edges(0, api.MaxPrio) {
		for _, s := range edges(0, api.MaxSeq) {
			for _, r := range edges(0, api.MaxRound) {
				l = append(l, api.Key{Prio: p, Seq: s, Round: r})
			}
		}
	}
	return l
}

// P1.5: keys are ordered like their words: by priority, then by sequence number, then by round.
func TestKeysOrdered(t *testing.T) {
	var few []api.Key
	for _, p := range []int{0, 1, 2, 127, 128, 253, 254} {
		for _, s := range []int{0, 1, 255, 65536, 1 << 39, 1<<40 - 1} {
			for _, r := range []int{0, 1, 255, 256, 65535} {
				few = append(few, api.Key{Prio: p, Seq: s, Round: r})
			}
		}
	}
	for _, a := range few {
		v, _ := word.PutKey(a)
		for _, b := range few {
			w, _ := word.PutKey(b)
			want := cmp.Or(cmp.Compare(a.Prio, b.Prio), cmp.Compare(a.Seq, b.Seq), cmp.Compare(a.Round, b.Round))
			if cmp.Compare(v, w) != want {
				t.Fatalf("%v is %x, %v is %x", a, v, b, w)
			}
		}
	}
}

// P1.5: api.Idle is no key, and greater than all of them; it is a top like each word.
func TestIdle(t *testing.T) {
	if k, err := word.GetKey(api.Idle); k != (api.Key{}) || err != api.ErrForm {
		t.Error("idle:", k, err)
	}
	for _, k := range edgeKeys() {
		if w, err := word.PutKey(k); w >= api.Idle || err != api.OK {
			t.Fatalf("%v: %x %v", k, w, err)
		}
	}
	for _, w := range append(manyWords(), api.Idle) {
		x, err := word.GetTop(w)
		if again, errAgain := word.PutTop(x); err != api.OK || errAgain != api.OK || again != w {
			t.Fatalf("%x: %v %v, put again %x %v", w, x, err, again, errAgain)
		}
	}
}
