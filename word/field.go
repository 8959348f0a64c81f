package word

import "coxswain/api"

// field is where a number lies in a word: its lowest bit, and how many bits it has.
type field struct{ from, bits uint }

// table lists the fields of a kind of word. Bits that no field has stay 0. A kind with fewer fields leaves the last ones without bits, so that they hold 0.
type table [3]field

// numbers are what the fields of a word hold, in the order of its table.
type numbers [len(table{})]int

// join trusts that each number fits its field: those that put values check the ranges first.
func (t table) join(n numbers) uint64 {
	var w uint64
	for i, f := range t {
		w |= uint64(n[i]) << f.from
	}
	return w
}

func (t table) split(w uint64) numbers {
	var n numbers
	for i, f := range t {
		n[i] = int(w >> f.from & (1<<f.bits - 1))
	}
	return n
}

// pair is a number and the greatest one that it may be. The least is 0 for all: an index is counted from none on (see place).
type pair struct{ number, most int }

func within(pairs ...pair) bool {
	for _, p := range pairs {
		if p.number < 0 || p.number > p.most {
			return false
		}
	}
	return true
}

// none is the index of nothing.
const none = -1

// maxPlace is the place of the greatest index.
const maxPlace = api.MaxIndex + 1

// place counts indices from none on, since words hold 0 for none. The greatest int wraps round to a negative place, so it stays out of range.
func place(index int) int { return index + 1 }

// index is the way back from a place.
func index(place int) int { return place - 1 }

// bit is what a field of one bit holds.
func bit(set bool) int {
	if set {
		return 1
	}
	return 0
}

// meaning is v, which was read from w, if w is what is put for v. Asking put keeps both ways from drifting apart: bits outside the fields, numbers out of range and wrong forms are all refused by it.
func meaning[V any](w uint64, v V, put func(V) (uint64, api.Errno)) (V, api.Errno) {
	if again, err := put(v); err != api.OK || again != w {
		var zero V
		return zero, api.ErrForm
	}
	return v, api.OK
}
