package draw

// Height returns 1 and how many bits 1 a number has from the lowest one on, but at most most.
func Height(n, most int) int {
	limit := max(most, 1)
	for ones := range limit {
		// Past the 64 bits of a number there are zeros, so that the run ends however great the limit is.
		if uint64(n)>>ones&1 == 0 {
			return ones + 1
		}
	}
	return limit
}

// Heights returns the height of each number.
func Heights(l []int, most int) []int {
	heights := make([]int, len(l))
	for i, n := range l {
		heights[i] = Height(n, most)
	}
	return heights
}
