package bitvec_test

import (
	"math"
	"slices"
	"testing"

	"colscan/api"
	"colscan/bitvec"
)

var relations = map[int]func(a, b uint64) bool{
	api.OpEq: func(a, b uint64) bool { return a == b },
	api.OpNe: func(a, b uint64) bool { return a != b },
	api.OpLt: func(a, b uint64) bool { return a < b },
	api.OpLe: func(a, b uint64) bool { return a <= b },
	api.OpGt: func(a, b uint64) bool { return a > b },
	api.OpGe: func(a, b uint64) bool { return a >= b },
}

// checkCompare holds Compare with every relation against the lanes asked one by one.
func checkCompare(t *testing.T, vals []uint64, width int, constants []uint64) {
	t.Helper()
	words := packing(vals, width)
	flags := make([]bool, len(vals))
	for _, c := range constants {
		for op, holds := range relations {
			for j, v := range vals {
				flags[j] = holds(v, c)
			}
			got, ok := bitvec.Compare(words, width, len(vals), op, c)
			if !ok || !slices.Equal(got, bitmap(flags)) {
				t.Fatalf("Compare of %d lanes of width %d, op %d, constant %#x: %v, %#x, want %#x",
					len(vals), width, op, c, ok, got, bitmap(flags))
			}
		}
	}
}

// edgeConstants are the edges of the width, and what no lane holds: also what a lane would hold if c lost its
// upper bits.
func edgeConstants(width int) []uint64 {
	out := append(edgeLanes(width), 1<<63-1, 1<<63, 1<<63+1, math.MaxUint64-1, math.MaxUint64)
	if width < 64 {
		out = append(out, 1<<width-1, 1<<width, 1<<width+1, 1<<63|1<<width|1)
		for _, v := range edgeLanes(width) {
			out = append(out, 1<<width+v, math.MaxUint64<<width|v)
		}
	}
	return out
}

func TestCompareEveryWidth(t *testing.T) {
	for width := 0; width <= 64; width++ {
		for _, n := range laneCounts(width) {
			vals := someLanes(width, n)
			checkCompare(t, vals, width, append(edgeConstants(width), vals[:min(n, 3)]...))
		}
	}
}

func TestCompareEveryPairOfNarrowLanes(t *testing.T) {
	for width := 1; width <= 5; width++ {
		var vals, constants []uint64
		for a := range greatestLane(width) + 1 {
			constants = append(constants, a)
			for b := range greatestLane(width) + 1 {
				vals = append(vals, a, b)
			}
		}
		checkCompare(t, vals, width, constants)
	}
}

// A lane's answer must not hang on its neighbours, whatever they carry or borrow.
func TestCompareBetweenEdgeNeighbours(t *testing.T) {
	for width := 1; width <= 64; width++ {
		var vals []uint64
		edges := edgeLanes(width)
		for _, a := range edges {
			for _, b := range edges {
				vals = append(vals, a, b, a)
			}
		}
		checkCompare(t, vals, width, edgeConstants(width))
	}
}

func TestCompareOfMaxRows(t *testing.T) {
	for _, width := range []int{0, 1, 7, 32, 33, 64} {
		vals := someLanes(width, api.MaxRows)
		checkCompare(t, vals, width, []uint64{0, 1, greatestLane(width), vals[17], math.MaxUint64})
	}
}

func TestCompareOfConstantsThatNoLaneHolds(t *testing.T) {
	all, none := []uint64{0b111}, []uint64{0}
	for width := 0; width < 64; width++ {
		words := packing([]uint64{greatestLane(width), 0, greatestLane(width)}, width)
		for _, c := range []uint64{1 << width, 1<<width + 1, 1 << 63, math.MaxUint64} {
			for op, want := range map[int][]uint64{
				api.OpEq: none, api.OpNe: all, api.OpLt: all, api.OpLe: all, api.OpGt: none, api.OpGe: none,
			} {
				got, ok := bitvec.Compare(words, width, 3, op, c)
				if !ok || !slices.Equal(got, want) {
					t.Errorf("width %d, op %d, constant %#x: %#x %v", width, op, c, got, ok)
				}
			}
		}
	}
}

func TestCompareRefusesOtherOps(t *testing.T) {
	others := append([]int{0, 13, 257, 1 << 40}, offLimits...)
	for op := api.OpIn; op <= api.OpNot; op++ {
		others = append(others, op)
	}
	for _, op := range others {
		for width := 0; width <= 64; width++ {
			for _, n := range []int{0, 1, 70} {
				got, ok := bitvec.Compare(packing(make([]uint64, n), width), width, n, op, 0)
				if ok || len(got) != 0 {
					t.Errorf("op %d is not refused for %d lanes of width %d: %#x", op, n, width, got)
				}
			}
		}
	}
}
