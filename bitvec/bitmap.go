package bitvec

import "math/bits"

// bitWords is the number of words of a bitmap of n bits.
func bitWords(n int) int {
	return (n + 63) / 64
}

// isBitmap tells whether words is a bitmap of n bits. A bitmap lies as lanes of width 1 do.
func isBitmap(words []uint64, n int) bool {
	return isPacking(words, 1, n)
}

// lowBits has the lowest k bits set, for k from 0 to 64.
func lowBits(k int) uint64 {
	return uint64(1)<<uint(k) - 1
}

func hasBit(words []uint64, place int) bool {
	return words[place/64]>>uint(place%64)&1 == 1
}

func setBit(words []uint64, place int) {
	words[place/64] |= uint64(1) << uint(place%64)
}

func countWord(word uint64) int {
	return bits.OnesCount64(word)
}

func countSet(words []uint64) int {
	count := 0
	for _, word := range words {
		count += countWord(word)
	}
	return count
}

// setPlaces lists the places of the set bits, ascending.
func setPlaces(words []uint64) []int {
	places := make([]int, 0, countSet(words))
	for k, word := range words {
		for ; word != 0; word &= word - 1 {
			places = append(places, k*64+bits.TrailingZeros64(word))
		}
	}
	return places
}

// uniform is the bitmap of n bits in which all bits are set, or none.
func uniform(n int, set bool) []uint64 {
	out := make([]uint64, bitWords(n))
	if !set {
		return out
	}
	for k := range out {
		out[k] = lowBits(lanesInWord(1, n, k))
	}
	return out
}
