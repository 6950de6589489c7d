package kernel_test

import (
	"math/big"
	"slices"
	"testing"

	"colscan/api"
	"colscan/kernel"
)

func checkMerge(t *testing.T, a, b, want api.Part) {
	t.Helper()
	if got := kernel.Merge(a, b); got != want {
		t.Errorf("Merge(%v, %v): %v, want %v", a, b, got, want)
	}
}

func TestMergeOfPiecesIsThePartOfTheWhole(t *testing.T) {
	for _, kind := range []int{api.KindInt, api.KindStr} {
		styles := map[int]int{api.KindInt: intStyles, api.KindStr: strStyles}[kind]
		for style := range styles {
			column := intColumn(70, style)
			if kind == api.KindStr {
				column = strColumn(70, style)
			}
			for _, cells := range withNulls(column) {
				whole := modelPart(cells, slices.Repeat([]bool{true}, len(cells)))
				for cut := range len(cells) + 1 {
					// The pieces lie in codecs of their own.
					a := foldOf(t, kind, cells[:cut], api.CodecRuns, 0)
					b := foldOf(t, kind, cells[cut:], api.CodecPlain, 0)
					checkMerge(t, a, b, whole)
					checkMerge(t, b, a, whole)
				}
			}
		}
	}
}

func TestMergeOfManyPieces(t *testing.T) {
	cells := withNulls(intColumn(200, 2))[1]
	whole := modelPart(cells, slices.Repeat([]bool{true}, len(cells)))
	for size := 1; size < 60; size += 7 {
		var front, back api.Part
		for piece := range slices.Chunk(cells, size) {
			part := foldOf(t, api.KindInt, piece, api.CodecFrame, 64)
			front, back = kernel.Merge(front, part), kernel.Merge(part, back)
		}
		if front != whole || back != whole {
			t.Errorf("pieces of %d: %v and %v, want %v", size, front, back, whole)
		}
	}
}

func TestMergeAddsNumbersOf128Bits(t *testing.T) {
	highs := []int64{0, 1, -1, 5, -5, greatest, greatest - 1, least, least + 1}
	lows := []uint64{0, 1, 2, 1<<63 - 1, 1 << 63, full - 1, full}
	for _, aHigh := range highs {
		for _, bHigh := range highs {
			for _, aLow := range lows {
				for _, bLow := range lows {
					sum := new(big.Int).Add(join128(aHigh, aLow), join128(bHigh, bLow))
					high, low := split128(sum)
					checkMerge(t, api.Part{High: aHigh, Low: aLow}, api.Part{High: bHigh, Low: bLow}, api.Part{High: high, Low: low})
					checkMerge(t, api.Part{Count: 2, High: aHigh, Low: aLow}, api.Part{Count: 3, High: bHigh, Low: bLow}, api.Part{Count: 5, High: high, Low: low})
				}
			}
		}
	}
}

func TestMergeWrapsCounts(t *testing.T) {
	for _, s := range [][3]int{
		{greatest, 1, least}, {1, greatest, least}, {least, -1, greatest}, {greatest, greatest, -2}, {least, least, 0}, {5, -5, 0}, {-7, 2, -5},
	} {
		checkMerge(t, api.Part{Count: s[0]}, api.Part{Count: s[1]}, api.Part{Count: s[2]})
	}
}

func TestMergeTakesTheBoundsOfTheOneThatHasValues(t *testing.T) {
	a := api.Part{Count: 2, Min: integer(3), Max: integer(9)}
	none := api.Part{High: 1, Low: 2, Min: integer(-100), Max: integer(100)}
	sum := func(count int, min, max api.Cell) api.Part {
		return api.Part{Count: count, High: 1, Low: 2, Min: min, Max: max}
	}
	checkMerge(t, a, none, sum(2, integer(3), integer(9)))
	checkMerge(t, none, a, sum(2, integer(3), integer(9)))
	// Neither has values: the second's bounds, though they have no meaning.
	checkMerge(t, none, api.Part{Min: integer(-5), Max: text("x")}, sum(0, integer(-5), text("x")))
	checkMerge(t, api.Part{Min: text("a"), Max: null}, none, sum(0, integer(-100), integer(100)))
	// A Count below 0 is not 0, even where the two make 0.
	minus := api.Part{Count: -2, Min: integer(3), Max: integer(9)}
	checkMerge(t, minus, sum(2, integer(4), integer(8)), sum(0, integer(3), integer(9)))
	checkMerge(t, sum(2, integer(4), integer(8)), minus, sum(0, integer(3), integer(9)))
	checkMerge(t, minus, sum(1, integer(2), integer(10)), sum(-1, integer(2), integer(10)))
	checkMerge(t, sum(1, integer(2), integer(10)), minus, sum(-1, integer(2), integer(10)))
}

func TestMergeOrdersAnyCells(t *testing.T) {
	null := func(c api.Cell) api.Cell {
		c.Null = true
		return c
	}
	both := func(v int64, s string) api.Cell { return api.Cell{Int: v, Str: s} }
	for _, s := range []struct{ a, b, min, max api.Cell }{
		{integer(1), integer(2), integer(1), integer(2)},
		{integer(2), integer(1), integer(1), integer(2)},
		{integer(least), integer(greatest), integer(least), integer(greatest)},
		{integer(greatest), integer(least), integer(least), integer(greatest)},
		{text("b"), text("ab"), text("ab"), text("b")},
		{text("a"), text("a\x00"), text("a"), text("a\x00")},
		{text("\x7f"), text("\x80"), text("\x7f"), text("\x80")},
		{text("\xff"), text("\xc3\xa4"), text("\xc3\xa4"), text("\xff")},
		// The integer goes before the string.
		{both(1, "z"), both(2, "a"), both(1, "z"), both(2, "a")},
		{both(2, "a"), both(1, "z"), both(1, "z"), both(2, "a")},
		{both(1, "z"), both(1, "a"), both(1, "a"), both(1, "z")},
		{text("z"), integer(-1), integer(-1), text("z")},
		{text("z"), integer(1), text("z"), integer(1)},
		// Null is not looked at, and where neither is less the first's stays.
		{null(integer(3)), integer(2), integer(2), null(integer(3))},
		{integer(3), null(integer(2)), null(integer(2)), integer(3)},
		{null(integer(3)), integer(3), null(integer(3)), null(integer(3))},
		{integer(3), null(integer(3)), integer(3), integer(3)},
		{null(text("a")), text("a"), null(text("a")), null(text("a"))},
	} {
		checkMerge(t, api.Part{Count: 1, Min: s.a, Max: s.a}, api.Part{Count: 1, Min: s.b, Max: s.b}, api.Part{Count: 2, Min: s.min, Max: s.max})
	}
	// Min and Max are looked at each for itself, also where they are no bounds.
	checkMerge(t, api.Part{Count: 1, Min: integer(5), Max: integer(1)}, api.Part{Count: 1, Min: integer(4), Max: integer(0)},
		api.Part{Count: 2, Min: integer(4), Max: integer(1)})
}

func checkTotal(t *testing.T, p api.Part, want api.Cell, wantCode int) {
	t.Helper()
	if cell, code := kernel.Total(p); cell != want || code != wantCode {
		t.Errorf("Total of %v: %v, code %d, want %v, code %d", p, cell, code, want, wantCode)
	}
}

func TestTotalIsTheSumIfItHas64Bits(t *testing.T) {
	highs := []int64{0, 1, -1, -2, 2, 1 << 32, greatest, least}
	lows := []uint64{0, 1, 1<<63 - 2, 1<<63 - 1, 1 << 63, 1<<63 + 1, full - 1, full}
	for _, high := range highs {
		for _, low := range lows {
			checkTotal(t, api.Part{High: high, Low: low}, null, api.ErrNone)
			for _, count := range []int{1, 2, -1, least, greatest} {
				part := api.Part{Count: count, High: high, Low: low, Min: integer(7), Max: integer(8)}
				if sum := join128(high, low); sum.IsInt64() {
					checkTotal(t, part, integer(sum.Int64()), api.ErrNone)
				} else {
					checkTotal(t, part, api.Cell{}, api.ErrOverflow)
				}
			}
		}
	}
	checkTotal(t, api.Part{}, null, api.ErrNone)
	checkTotal(t, api.Part{Min: integer(1), Max: integer(2)}, null, api.ErrNone)
	checkTotal(t, api.Part{Count: 1, Min: text("a"), Max: text("a")}, integer(0), api.ErrNone)
}

// orders gives the cells in every order.
func orders(cells []api.Cell) [][]api.Cell {
	if len(cells) == 0 {
		return [][]api.Cell{nil}
	}
	var out [][]api.Cell
	for i, c := range cells {
		rest := slices.Delete(slices.Clone(cells), i, i+1)
		for _, order := range orders(rest) {
			out = append(out, append([]api.Cell{c}, order...))
		}
	}
	return out
}

func TestTotalHangsOnTheWholeSumAlone(t *testing.T) {
	for _, s := range []struct {
		cells []api.Cell
		want  api.Cell
		code  int
	}{
		{integers(greatest), integer(greatest), 0},
		{integers(least), integer(least), 0},
		{integers(greatest, 1), api.Cell{}, api.ErrOverflow},
		{integers(least, -1), api.Cell{}, api.ErrOverflow},
		{integers(greatest, 1, -1), integer(greatest), 0},
		{integers(least, -1, 1), integer(least), 0},
		{integers(greatest, greatest, least, least), integer(-2), 0},
		{integers(greatest, greatest, least, 1), integer(greatest), 0},
		{integers(greatest, greatest, least, 2), api.Cell{}, api.ErrOverflow},
		{integers(least, least, greatest, 1), integer(least), 0},
		{integers(least, least, greatest, 0), api.Cell{}, api.ErrOverflow},
		{[]api.Cell{null, integer(greatest), null, integer(greatest)}, api.Cell{}, api.ErrOverflow},
		{[]api.Cell{null, integer(0)}, integer(0), 0},
		{[]api.Cell{null, null}, null, 0},
		{nil, null, 0},
	} {
		for _, cells := range orders(s.cells) {
			for cut := range len(cells) + 1 {
				for _, plan := range [][2]int{{api.CodecPlain, 0}, {api.CodecDict, 0}, {api.CodecRuns, 0}, {api.CodecFrame, 64}} {
					a := foldOf(t, api.KindInt, cells[:cut], plan[0], plan[1])
					b := foldOf(t, api.KindInt, cells[cut:], plan[0], plan[1])
					checkTotal(t, kernel.Merge(a, b), s.want, s.code)
				}
			}
		}
	}
}
