package ring

import (
	"coxswain/api"
	"coxswain/word"
)

// slot is the word of a slot. Nothing changes one: its methods return other words.
type slot uint64

const (
	// fullBit is 1 in the word of a full slot.
	fullBit slot = 1 << 16

	// spare are the bits of no field: they may be anything here, while word.GetSlot has them be 0.
	spare slot = 1<<32 - 1<<17
)

func put(p api.Slot) slot {
	w, _ := word.PutSlot(p)
	return slot(w)
}

// read takes each word for that of a full slot, for those of an empty one with a value are none to word.GetSlot.
func (s slot) read() api.Slot {
	p, _ := word.GetSlot(uint64(s&^spare | fullBit))
	return p
}

func (s slot) full() bool { return s&fullBit != 0 }

func (s slot) value() int { return s.read().Value }

// with is the full slot with the same lap and a value.
func (s slot) with(v int) slot { return put(api.Slot{Lap: s.read().Lap, Full: true, Value: v}) }

// emptied is the empty slot with the same lap.
func (s slot) emptied() slot { return put(api.Slot{Lap: s.read().Lap}) }

// dropped is the empty slot with the lap after it: what it is once its value has been taken away.
func (s slot) dropped() slot { return put(api.Slot{Lap: (s.read().Lap + 1) & api.MaxLap}) }

// free reports whether it is read as a vacant one.
func (s slot) free(vacant slot) bool { return !s.full() && s.emptied() == vacant }

// taken reports whether it is what a vacant one becomes by a value.
func (s slot) taken(vacant slot) bool { return s.full() && s.emptied() == vacant }

// kept reports whether its value must be dropped before it is a vacant one.
func (s slot) kept(vacant slot) bool { return s.full() && s.dropped() == vacant }
