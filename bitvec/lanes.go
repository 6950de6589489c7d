package bitvec

import (
	"math/bits"

	"colscan/api"
)

func inLimits(width int, n int) bool {
	return width >= 0 && width <= 64 && n >= 0 && n <= api.MaxRows
}

// lanesPerWord is how many whole lanes fit a word. The width is not 0.
func lanesPerWord(width int) int {
	return 64 / width
}

// laneWords is the number of words of n lanes.
func laneWords(width int, n int) int {
	if width == 0 {
		return 0
	}
	per := lanesPerWord(width)
	return (n + per - 1) / per
}

// lanesInWord is how many of n lanes lie in word k, one of their words.
func lanesInWord(width int, n int, k int) int {
	per := lanesPerWord(width)
	return min(per, n-k*per)
}

// isPacking tells whether words is a packing of n lanes of that width.
func isPacking(words []uint64, width int, n int) bool {
	if !inLimits(width, n) || len(words) != laneWords(width, n) {
		return false
	}
	for k, word := range words {
		if word&^lowBits(lanesInWord(width, n, k)*width) != 0 {
			return false
		}
	}
	return true
}

// packWord packs values that fit into one word.
func packWord(vals []uint64, width int) uint64 {
	word := uint64(0)
	for j, v := range vals {
		word |= v << uint(j*width)
	}
	return word
}

// unpackWord fills vals with the first lanes of a word.
func unpackWord(vals []uint64, width int, word uint64) {
	for j := range vals {
		vals[j] = word >> uint(j*width) & lowBits(width)
	}
}

// everyLane is the word in which each lane is 1.
func everyLane(width int) uint64 {
	word := uint64(0)
	for j := range lanesPerWord(width) {
		word |= uint64(1) << uint(j*width)
	}
	return word
}

// markLanes sets the bit of each lane of which hits holds a bit; the lanes of the word count from first.
func markLanes(out []uint64, first int, width int, hits uint64) {
	for ; hits != 0; hits &= hits - 1 {
		setBit(out, first+bits.TrailingZeros64(hits)/width)
	}
}
