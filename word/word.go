// Package word is layer 1: the encoding of refs, tops, slots and keys in words: see shared/doc/01-word.md.
package word

import "coxswain/api"

// Each kind of word has a type of its own, so that one is not read by the table of another.
type (
	refWord  uint64
	topWord  uint64
	slotWord uint64
	keyWord  uint64
)

// markBit is where a ref has its mark, in its table and for Marked and Marks.
const markBit = 63

func (refWord) table() table  { return table{{0, 16}, {16, 32}, {markBit, 1}} }
func (topWord) table() table  { return table{{0, 16}, {16, 48}} }
func (slotWord) table() table { return table{{0, 16}, {16, 1}, {32, 32}} }
func (keyWord) table() table  { return table{{0, 16}, {16, 40}, {56, 8}} }

func (w refWord) value() api.Ref {
	n := w.table().split(uint64(w))
	return api.Ref{Index: index(n[0]), Gen: n[1], Mark: n[2] == 1}
}

func (w topWord) value() api.Top {
	n := w.table().split(uint64(w))
	return api.Top{Index: index(n[0]), Tag: n[1]}
}

func (w slotWord) value() api.Slot {
	n := w.table().split(uint64(w))
	return api.Slot{Value: n[0], Full: n[1] == 1, Lap: n[2]}
}

func (w keyWord) value() api.Key {
	n := w.table().split(uint64(w))
	return api.Key{Round: n[0], Seq: n[1], Prio: n[2]}
}

func (w refWord) marked() bool { return w>>markBit == 1 }

func (w refWord) marks(mark bool) refWord {
	if mark {
		return w | 1<<markBit
	}
	return w &^ (1 << markBit)
}

// PutRef returns the word of a ref.
func PutRef(r api.Ref) (uint64, api.Errno) {
	if !within(pair{place(r.Index), maxPlace}, pair{r.Gen, api.MaxGen}) {
		return 0, api.ErrRange
	}
	if r.Index == none && r.Gen != 0 {
		return 0, api.ErrForm
	}
	return refWord(0).table().join(numbers{place(r.Index), r.Gen, bit(r.Mark)}), api.OK
}

// GetRef returns the ref whose word w is.
func GetRef(w uint64) (api.Ref, api.Errno) {
	return meaning(w, refWord(w).value(), PutRef)
}

// PutTop returns the word of a top.
func PutTop(t api.Top) (uint64, api.Errno) {
	if !within(pair{place(t.Index), maxPlace}, pair{t.Tag, api.MaxTag}) {
		return 0, api.ErrRange
	}
	return topWord(0).table().join(numbers{place(t.Index), t.Tag}), api.OK
}

// GetTop returns the top whose word w is; each word is one of a top.
func GetTop(w uint64) (api.Top, api.Errno) {
	return meaning(w, topWord(w).value(), PutTop)
}

// PutSlot returns the word of a slot.
func PutSlot(s api.Slot) (uint64, api.Errno) {
	if !within(pair{s.Lap, api.MaxLap}, pair{s.Value, api.MaxValue}) {
		return 0, api.ErrRange
	}
	if !s.Full && s.Value != 0 {
		return 0, api.ErrForm
	}
	return slotWord(0).table().join(numbers{s.Value, bit(s.Full), s.Lap}), api.OK
}

// GetSlot returns the slot whose word w is.
func GetSlot(w uint64) (api.Slot, api.Errno) {
	return meaning(w, slotWord(w).value(), PutSlot)
}

// PutKey returns the word of a key; keys are ordered like their words.
func PutKey(k api.Key) (uint64, api.Errno) {
	if !within(pair{k.Prio, api.MaxPrio}, pair{k.Seq, api.MaxSeq}, pair{k.Round, api.MaxRound}) {
		return 0, api.ErrRange
	}
	return keyWord(0).table().join(numbers{k.Round, k.Seq, k.Prio}), api.OK
}

// GetKey returns the key whose word w is; api.Idle is no key's.
func GetKey(w uint64) (api.Key, api.Errno) {
	return meaning(w, keyWord(w).value(), PutKey)
}

// Marked reports whether a word has the mark of a ref.
func Marked(w uint64) bool { return refWord(w).marked() }

// Marks returns a word with the mark of a ref, or without it.
func Marks(w uint64, mark bool) uint64 { return uint64(refWord(w).marks(mark)) }
