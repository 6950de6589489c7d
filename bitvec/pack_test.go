package bitvec_test

import (
	"math"
	"slices"
	"testing"

	"colscan/api"
	"colscan/bitvec"
)

func TestPackOfTheDocumentsExample(t *testing.T) {
	words, ok := bitvec.Pack([]uint64{1, 2, 3}, 30)
	if !ok || !slices.Equal(words, []uint64{0x80000001, 0x3}) {
		t.Errorf("Pack: %#x %v", words, ok)
	}
	lanes, ok := bitvec.Unpack([]uint64{0x80000001, 0x3}, 30, 3)
	if !ok || !slices.Equal(lanes, []uint64{1, 2, 3}) {
		t.Errorf("Unpack: %v %v", lanes, ok)
	}
}

func checkPacking(t *testing.T, vals []uint64, width int) {
	t.Helper()
	want := packing(vals, width)
	words, ok := bitvec.Pack(vals, width)
	if !ok || !slices.Equal(words, want) {
		t.Fatalf("Pack of %d lanes of width %d: %v, %#x, want %#x", len(vals), width, ok, words, want)
	}
	lanes, ok := bitvec.Unpack(want, width, len(vals))
	if !ok || !slices.Equal(lanes, vals) {
		t.Fatalf("Unpack of %d lanes of width %d: %v, %#x, want %#x", len(vals), width, ok, lanes, vals)
	}
}

func TestPackAndUnpackEveryWidth(t *testing.T) {
	for width := 0; width <= 64; width++ {
		for _, n := range laneCounts(width) {
			checkPacking(t, someLanes(width, n), width)
			checkPacking(t, slices.Repeat([]uint64{greatestLane(width)}, n), width)
			checkPacking(t, make([]uint64, n), width)
		}
	}
}

func TestPackAndUnpackOfMaxRows(t *testing.T) {
	for _, width := range []int{0, 1, 2, 3, 31, 32, 33, 63, 64} {
		checkPacking(t, someLanes(width, api.MaxRows), width)
	}
}

func refusesPack(t *testing.T, vals []uint64, width int) {
	t.Helper()
	if words, ok := bitvec.Pack(vals, width); ok || len(words) != 0 {
		t.Errorf("Pack of %d lanes of width %d is not refused: %d words, %v", len(vals), width, len(words), ok)
	}
}

func TestPackRefusesWidths(t *testing.T) {
	for _, width := range append([]int{65, 66, 128}, offLimits...) {
		refusesPack(t, nil, width)
		refusesPack(t, []uint64{0}, width)
		refusesPack(t, make([]uint64, 100), width)
	}
}

func TestPackRefusesTooManyValues(t *testing.T) {
	for width := 0; width <= 64; width++ {
		refusesPack(t, make([]uint64, api.MaxRows+1), width)
	}
	refusesPack(t, make([]uint64, 2*api.MaxRows), 8)
}

func TestPackRefusesValuesThatNoLaneHolds(t *testing.T) {
	for width := 0; width < 64; width++ {
		for _, v := range []uint64{1 << width, 1<<width + 1, 1 << 63, math.MaxUint64} {
			for place := range 70 {
				vals := make([]uint64, 70)
				vals[place] = v
				refusesPack(t, vals, width)
			}
		}
	}
}

// refusesWords asks Unpack, and Compare with each relation: all lean on one rule of what a packing is.
func refusesWords(t *testing.T, words []uint64, width, n int) {
	t.Helper()
	if lanes, ok := bitvec.Unpack(words, width, n); ok || len(lanes) != 0 {
		t.Fatalf("Unpack(%d words, %d, %d) is not refused: %d lanes, %v", len(words), width, n, len(lanes), ok)
	}
	for op := api.OpEq; op <= api.OpGe; op++ {
		for _, c := range []uint64{0, 1, math.MaxUint64} {
			if hits, ok := bitvec.Compare(words, width, n, op, c); ok || len(hits) != 0 {
				t.Fatalf("Compare(%d words, %d, %d, %d, %d) is not refused", len(words), width, n, op, c)
			}
		}
	}
}

func TestNoPackingByItsLength(t *testing.T) {
	for width := 0; width <= 64; width++ {
		for _, n := range laneCounts(width) {
			words := packing(make([]uint64, n), width)
			refusesWords(t, append(words, 0), width, n)
			refusesWords(t, make([]uint64, len(words)+9), width, n)
			if len(words) > 0 {
				refusesWords(t, words[1:], width, n)
				refusesWords(t, nil, width, n)
			}
		}
	}
}

// outsideBits sets each bit of the packing of n lanes that belongs to no lane, one at a time.
func outsideBits(t *testing.T, width, n int) {
	t.Helper()
	inLane := packing(slices.Repeat([]uint64{greatestLane(width)}, n), width)
	for k := range inLane {
		for bit := range 64 {
			if inLane[k]>>bit&1 == 1 {
				continue
			}
			words := make([]uint64, len(inLane))
			words[k] = 1 << bit
			refusesWords(t, words, width, n)
			words = slices.Clone(inLane)
			words[k] |= 1 << bit
			refusesWords(t, words, width, n)
		}
	}
}

func TestNoPackingByABitOutsideTheLanes(t *testing.T) {
	for width := 1; width <= 64; width++ {
		for _, n := range laneCounts(width) {
			if n < 200 {
				outsideBits(t, width, n)
			}
		}
	}
}

func TestNoPackingByAWidthOrACountOutOfRange(t *testing.T) {
	for _, width := range append([]int{65, 66, 128}, offLimits...) {
		refusesWords(t, nil, width, 0)
		refusesWords(t, nil, width, 1)
		refusesWords(t, []uint64{0}, width, 1)
	}
	for width := 0; width <= 64; width++ {
		for _, n := range append([]int{api.MaxRows + 1, 1 << 40}, offLimits...) {
			refusesWords(t, nil, width, n)
			refusesWords(t, []uint64{0}, width, n)
		}
		refusesWords(t, packing(make([]uint64, api.MaxRows+1), width), width, api.MaxRows+1)
	}
}
