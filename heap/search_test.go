package heap

import (
	"math/bits"
	"strings"
	"testing"

	"coxswain/api"
)

// P7.1: a search finds each thing of a list, whatever it is made of, and where what it has not would be.
func TestSearch(t *testing.T) {
	words := []string{"b", "d", "f", "h", "j"}
	for n := range len(words) + 1 {
		for i, sought := range []string{"a", "b", "c", "d", "e", "f", "g", "h", "i", "j", "k"} {
			at, is := search(words[:n], sought, strings.Compare)
			if at != min(i/2, n) || is != (i%2 == 1 && i/2 < n) {
				t.Errorf("%s in %v: %d %v", sought, words[:n], at, is)
			}
		}
	}
}

// P7.2: a search in a set halves it again and again: it looks at few of the items.
func TestSearchIsShort(t *testing.T) {
	var s []api.Item
	for n := range uint64(api.MaxItems) {
		s = append(s, api.Item{Key: 2*n + 1})
		for key := range 2*n + 3 {
			looks := 0
			search(s, key, func(x api.Item, key uint64) int {
				looks++
				return byKey(x, key)
			})
			if most := bits.Len(uint(len(s))) + 1; looks > most {
				t.Fatalf("%d items: %d looks for %d", len(s), looks, key)
			}
		}
	}
}

// P7.2: an outcome's set may be a piece of the one ahead of it, but has no room to spare in it, so that nothing can grow over that.
func TestPieces(t *testing.T) {
	room := make([]api.Item, 9)
	for i := range room {
		room[i] = api.Item{Key: uint64(i)*2 + 1, A: i}
	}
	for n := 1; n < len(room); n++ {
		s := room[:n]
		picked := pick(s, api.Op{})[0].after
		if len(picked) != n-1 || cap(picked) != n-1 {
			t.Errorf("of %d items %d are left, with room for %d", n, len(picked), cap(picked))
		}
		for at := range n + 1 {
			more := with(s, at, api.Item{Key: uint64(at) * 2})
			clear(more[:cap(more)])
		}
		for i, x := range room {
			if x != (api.Item{Key: uint64(i)*2 + 1, A: i}) {
				t.Fatal("the set became", room)
			}
		}
	}
}
