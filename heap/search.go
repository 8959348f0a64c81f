package heap

import (
	"cmp"

	"coxswain/api"
)

// search returns where the first thing is that is not less than what is sought, and whether it is that. The things must be in the order in which they are compared.
func search[T, K any](l []T, sought K, compare func(T, K) int) (int, bool) {
	from, to := 0, len(l)
	for from < to {
		middle := from + (to-from)/2
		if compare(l[middle], sought) < 0 {
			from = middle + 1
		} else {
			to = middle
		}
	}
	return from, from < len(l) && compare(l[from], sought) == 0
}

// byKey compares an item with a key.
func byKey(x api.Item, key uint64) int { return cmp.Compare(x.Key, key) }
