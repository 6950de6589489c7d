package bitvec_test

import (
	"math"

	"colscan/api"
)

var offLimits = []int{math.MinInt, -64, -1, math.MaxInt}

// manyNumbers gives n numbers that have nothing to do with each other, the same in every run.
func manyNumbers(n int, seed uint64) []uint64 {
	out := make([]uint64, n)
	for i := range out {
		z := (seed + uint64(i) + 1) * 0x9E3779B97F4A7C15
		z = (z ^ z>>30) * 0xBF58476D1CE4E5B9
		z = (z ^ z>>27) * 0x94D049BB133111EB
		out[i] = z ^ z>>31
	}
	return out
}

// greatestLane is 2^width - 1.
func greatestLane(width int) uint64 {
	if width == 0 {
		return 0
	}
	return math.MaxUint64 >> (64 - width)
}

// edgeLanes are the values of that width at which a comparison can go wrong, each once.
func edgeLanes(width int) []uint64 {
	greatest := greatestLane(width)
	half := greatest/2 + 1
	var out []uint64
	seen := map[uint64]int{}
	for _, v := range []uint64{0, 1, 2, half - 1, half, half + 1, greatest - 1, greatest} {
		if v <= greatest && seen[v] == 0 {
			seen[v] = 1
			out = append(out, v)
		}
	}
	return out
}

// someLanes mixes edges with other values of that width.
func someLanes(width, n int) []uint64 {
	edges := edgeLanes(width)
	out := manyNumbers(n, uint64(width*100000+n))
	for i, v := range out {
		if v%3 == 0 {
			out[i] = edges[v/3%uint64(len(edges))]
		} else {
			out[i] = v & greatestLane(width)
		}
	}
	return out
}

// laneCounts are numbers of lanes around the edges of the words.
func laneCounts(width int) []int {
	if width == 0 {
		return []int{0, 1, 2, 63, 64, 65, 200}
	}
	per := 64 / width
	return []int{0, 1, per - 1, per, per + 1, 2*per - 1, 2 * per, 2*per + 1, 7*per + per/2}
}

// laneBit is where bit b of lane j lies: the number of the word, and the bit in it.
func laneBit(width, j, b int) (int, int) {
	per := 64 / width
	return j / per, j%per*width + b
}

// packing lays the lanes out bit by bit, as 1.7 says.
func packing(vals []uint64, width int) []uint64 {
	if width == 0 {
		return nil
	}
	per := 64 / width
	words := make([]uint64, (len(vals)+per-1)/per)
	for j, v := range vals {
		for b := range width {
			if v>>b&1 == 1 {
				word, bit := laneBit(width, j, b)
				words[word] |= 1 << bit
			}
		}
	}
	return words
}

// bitmap is the bitmap with a set bit for each flag that is true.
func bitmap(flags []bool) []uint64 {
	words := make([]uint64, (len(flags)+63)/64)
	for i, set := range flags {
		if set {
			words[i/64] |= 1 << (i % 64)
		}
	}
	return words
}

// someFlags gives n flags of which about one in every is true; every 0 means none.
func someFlags(n, every int) []bool {
	out := make([]bool, n)
	if every == 0 {
		return out
	}
	for i, v := range manyNumbers(n, uint64(every)) {
		out[i] = v%uint64(every) == 0
	}
	return out
}

func placesOf(flags []bool) []int {
	var out []int
	for i, set := range flags {
		if set {
			out = append(out, i)
		}
	}
	return out
}

// bitCounts are lengths of bitmaps around the edges of the words.
var bitCounts = []int{0, 1, 2, 31, 62, 63, 64, 65, 66, 127, 128, 129, 300, api.MaxRows - 1, api.MaxRows}
