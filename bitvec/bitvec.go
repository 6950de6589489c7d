// Package bitvec holds bitmaps and packed lanes.
package bitvec

import "colscan/api"

// Pack packs the values into lanes of that width.
func Pack(vals []uint64, width int) ([]uint64, bool) {
	if !inLimits(width, len(vals)) {
		return nil, false
	}
	greatest := lowBits(width)
	for _, v := range vals {
		if v > greatest {
			return nil, false
		}
	}
	words := make([]uint64, laneWords(width, len(vals)))
	for k := range words {
		first := k * lanesPerWord(width)
		words[k] = packWord(vals[first:first+lanesInWord(width, len(vals), k)], width)
	}
	return words, true
}

// Unpack gives the n lanes back.
func Unpack(words []uint64, width int, n int) ([]uint64, bool) {
	if !isPacking(words, width, n) {
		return nil, false
	}
	vals := make([]uint64, n)
	for k, word := range words {
		first := k * lanesPerWord(width)
		unpackWord(vals[first:first+lanesInWord(width, n, k)], width, word)
	}
	return vals, true
}

// Compare tells of each lane whether it stands in the relation op to c.
func Compare(words []uint64, width int, n int, op int, c uint64) ([]uint64, bool) {
	if !isRelation(op) || !isPacking(words, width, n) {
		return nil, false
	}
	if width == 0 || c > lowBits(width) {
		// Every lane stands to c as 0 does: it is 0, or it is below c like 0.
		return uniform(n, standsIn(0, op, c)), true
	}
	out := make([]uint64, bitWords(n))
	ones := everyLane(width)
	tops := ones << uint(width-1)
	// c fits a lane, so the product is c in every lane and nothing is carried.
	spread := ones * c
	for k, word := range words {
		// The last word may have room for lanes that are not among the n: they must not answer.
		used := lowBits(lanesInWord(width, n, k) * width)
		hits := compareWord(word, spread, tops, op) & used
		markLanes(out, k*lanesPerWord(width), width, hits)
	}
	return out, true
}

// Rank counts the set bits below place i.
func Rank(bits []uint64, n int, i int) int {
	if !isBitmap(bits, n) || i < 0 || i > n {
		return -1
	}
	count := countSet(bits[:i/64])
	if i%64 != 0 {
		count += countWord(bits[i/64] & lowBits(i%64))
	}
	return count
}

// Indexes lists the places of the set bits.
func Indexes(bits []uint64, n int) ([]int, bool) {
	if !isBitmap(bits, n) {
		return nil, false
	}
	return setPlaces(bits), true
}

// Dense sets the listed places.
func Dense(idx []int, n int) ([]uint64, bool) {
	if n < 0 || n > api.MaxRows {
		return nil, false
	}
	out := make([]uint64, bitWords(n))
	least := 0
	for _, place := range idx {
		if place < least || place >= n {
			return nil, false
		}
		setBit(out, place)
		least = place + 1
	}
	return out, true
}

// Expand lays the bits of inner at the set places of mask.
func Expand(mask []uint64, n int, inner []uint64) ([]uint64, bool) {
	if !isBitmap(mask, n) {
		return nil, false
	}
	places := setPlaces(mask)
	if !isBitmap(inner, len(places)) {
		return nil, false
	}
	out := make([]uint64, bitWords(n))
	for j, place := range places {
		if hasBit(inner, j) {
			setBit(out, place)
		}
	}
	return out, true
}
