package kernel

// newBitmap is the bitmap of n bits of which none is set.
func newBitmap(n int) []uint64 {
	return make([]uint64, (n+63)/64)
}

// setRange sets the bits from start up to end, which itself is left out, a word at a time.
func setRange(words []uint64, start int, end int) {
	for start < end {
		stop := min(end, start/64*64+64)
		ones := uint64(1)<<uint(stop-start) - 1
		words[start/64] |= ones << uint(start%64)
		start = stop
	}
}

// unite sets in words what is set in more, a bitmap of as many bits.
func unite(words []uint64, more []uint64) {
	for k, word := range more {
		words[k] |= word
	}
}

// intersect leaves in words only what is set in other too, a bitmap of as many bits.
func intersect(words []uint64, other []uint64) {
	for k, word := range other {
		words[k] &= word
	}
}
