package chunk_test

import (
	"math"
	"slices"
	"strings"
	"testing"

	"colscan/api"
	"colscan/chunk"
)

func TestNeedIsTheLeastWidth(t *testing.T) {
	for d := range 1000 {
		w := chunk.Need(d)
		if w < 0 || 1<<w < d || w > 0 && 1<<(w-1) >= d {
			t.Errorf("Need(%d) = %d", d, w)
		}
	}
}

func TestCodecsAreForKinds(t *testing.T) {
	for kind := -1; kind < 4; kind++ {
		for codec := -1; codec < 8; codec++ {
			want := kind == api.KindInt && codec >= 1 && codec <= 5 || kind == api.KindStr && codec >= 1 && codec <= 3
			if chunk.IsCodec(kind, codec) != want {
				t.Errorf("IsCodec(%d, %d) is not %v", kind, codec, want)
			}
		}
	}
}

func TestCellsOfKinds(t *testing.T) {
	long := strings.Repeat("s", api.MaxStr)
	for _, s := range []struct {
		cell     api.Cell
		int, str bool
	}{
		{api.Cell{}, true, true}, {api.Cell{Null: true}, true, true}, {api.Cell{Int: -1}, true, false},
		{api.Cell{Str: "a"}, false, true}, {api.Cell{Str: long}, false, true}, {api.Cell{Str: long + "s"}, false, false},
		{api.Cell{Int: 1, Str: "a"}, false, false}, {api.Cell{Null: true, Int: 1}, false, false},
		{api.Cell{Null: true, Str: "a"}, false, false},
	} {
		if chunk.OfKind(api.KindInt, s.cell) != s.int || chunk.OfKind(api.KindStr, s.cell) != s.str {
			t.Errorf("cell %v: of KindInt %v, of KindStr %v", s.cell, !s.int, !s.str)
		}
		full := !s.cell.Null
		if chunk.IsValue(api.KindInt, s.cell) != (s.int && full) || chunk.IsValue(api.KindStr, s.cell) != (s.str && full) {
			t.Errorf("cell %v: what value it is", s.cell)
		}
		for _, kind := range []int{0, 3, -1} {
			if chunk.OfKind(kind, s.cell) || chunk.IsValue(kind, s.cell) || chunk.IsKind(kind) {
				t.Errorf("cell %v is of kind %d", s.cell, kind)
			}
		}
	}
	for kind := -1; kind < 4; kind++ {
		null := api.Cell{Null: true}
		if chunk.OfKind(kind, null) != chunk.IsKind(kind) || chunk.IsValue(kind, null) {
			t.Errorf("NULL and kind %d", kind)
		}
	}
}

func TestListsOfCells(t *testing.T) {
	a, b, null := api.Cell{Int: 1}, api.Cell{Str: "b"}, api.Cell{Null: true}
	all := make([]api.Cell, api.MaxRows+1)
	for _, s := range []struct {
		cells    []api.Cell
		int, str bool
	}{
		{nil, true, true}, {[]api.Cell{null, null}, true, true}, {[]api.Cell{a, null, a}, true, false}, {[]api.Cell{b, null}, false, true},
		{[]api.Cell{a, b}, false, false}, {[]api.Cell{b, a}, false, false}, {all[1:], true, true}, {all, false, false},
	} {
		if chunk.AreCells(api.KindInt, s.cells) != s.int || chunk.AreCells(api.KindStr, s.cells) != s.str {
			t.Errorf("%d cells: of KindInt %v, of KindStr %v", len(s.cells), !s.int, !s.str)
		}
		if chunk.AreCells(0, s.cells) || chunk.AreCells(3, s.cells) {
			t.Errorf("%d cells are of no kind", len(s.cells))
		}
	}
}

func TestLeavesOfKinds(t *testing.T) {
	a, b, null := api.Cell{Int: 1}, api.Cell{Str: "b"}, api.Cell{Null: true}
	for op := -1; op <= 13; op++ {
		for count := range 4 {
			want := op >= api.OpEq && op <= api.OpGe && count == 1 || op == api.OpIn || op == api.OpBetween && count == 2 || op == api.OpIsNull && count == 0
			ints := api.Node{Op: op, Col: 99, Args: slices.Repeat([]api.Cell{a}, count)}
			strs := api.Node{Op: op, Col: -1, Args: slices.Repeat([]api.Cell{b}, count)}
			if chunk.IsLeaf(api.KindInt, ints) != want || chunk.IsLeaf(api.KindStr, strs) != want {
				t.Errorf("op %d of %d literals is not %v", op, count, want)
			}
			if count > 0 && (chunk.IsLeaf(api.KindInt, strs) || chunk.IsLeaf(api.KindStr, ints)) {
				t.Errorf("op %d of %d literals of the other kind", op, count)
			}
			if chunk.IsLeaf(0, ints) || chunk.IsLeaf(3, strs) {
				t.Errorf("op %d of %d literals is for no kind", op, count)
			}
		}
	}
	for _, args := range [][]api.Cell{{null}, {a, null}, {null, a}, {a, b}} {
		if chunk.IsLeaf(api.KindInt, api.Node{Op: api.OpIn, Args: args}) {
			t.Errorf("literals %v", args)
		}
	}
	for count, want := range map[int]bool{api.MaxArgs: true, api.MaxArgs + 1: false} {
		if chunk.IsLeaf(api.KindInt, api.Node{Op: api.OpIn, Args: slices.Repeat([]api.Cell{a}, count)}) != want {
			t.Errorf("%d literals", count)
		}
	}
}

func TestEmptyRowsAreTheirOwn(t *testing.T) {
	for _, count := range []int{0, 1, 5} {
		for _, columns := range []int{1, 3} {
			rows := chunk.EmptyRows(count, columns)
			if len(rows) != count {
				t.Errorf("%d rows, not %d", len(rows), count)
			}
			for i, row := range rows {
				if !slices.Equal(row, make([]api.Cell, columns)) {
					t.Errorf("row %d is %v", i, row)
				}
				_ = append(row, api.Cell{Int: 9})
				row[0].Int = 9
			}
		}
	}
}

func TestWidthsThatMayBeChosen(t *testing.T) {
	for codec := api.CodecPlain; codec <= api.CodecPacked; codec++ {
		for _, width := range []int{math.MinInt, -1, 0, 1, 63, 64, 65, math.MaxInt} {
			want := width == 0 || codec >= api.CodecFrame && width > 0 && width <= 64
			if chunk.IsWidth(codec, width) != want {
				t.Errorf("IsWidth(%d, %d) is not %v", codec, width, want)
			}
		}
	}
}

// checkValues looks a body through, and asks for the different values of its rows.
func checkValues[V chunk.Value](t *testing.T, kind chunk.Kind[V], rows int, body []byte, want ...V) {
	t.Helper()
	c, ok := chunk.Look(kind, rows, body)
	if !ok {
		t.Fatalf("% x is not valid", body)
	}
	got := slices.Sorted(c.Values())
	if got = slices.Compact(got); !slices.Equal(got, want) {
		t.Errorf("% x: the values are %v, want %v", body, got, want)
	}
	for first := range c.Values() {
		if !slices.Contains(want, first) {
			t.Errorf("% x: the first value is %v", body, first)
		}
		break
	}
}

func TestValuesAreThoseOfTheRows(t *testing.T) {
	bare, second := "\x00\x00\x00\x00\x00\x00\x00\x00", "\x02\x00\x00\x00\x00\x00\x00\x00"
	checkValues[int64](t, chunk.Ints{}, 0, []byte("\x01\x00"))
	checkValues[int64](t, chunk.Ints{}, 3, []byte("\x01\x00"+second+second+bare), 0, 2)
	checkValues[string](t, chunk.Strs{}, 3, []byte("\x01\x00"+second+"\x01\x00\x00\x00\x02\x00\x00\x00ba"), "a", "b")
	checkValues[string](t, chunk.Strs{}, 3, []byte("\x03\x00"+bare+"\x02\x00\x00\x00\x01\x00\x00\x00\x03\x00\x00\x00"+
		"\x01\x00\x00\x00\x01\x00\x00\x00q"), "", "q")
	checkValues[int64](t, chunk.Ints{}, 3, []byte("\x04\x02"+second+second+"\x0c\x00\x00\x00\x00\x00\x00\x00"), 2, 5)
	checkValues[int64](t, chunk.Ints{}, 2, []byte("\x05\x00"+bare), 0)
	// Of the three entries only the first and the last are used.
	dict := "\x03\x00\x00\x00\x00\x00\x00\x00\x01\x00\x00\x00\x02\x00\x00\x00ab"
	checkValues[string](t, chunk.Strs{}, 3, []byte("\x02\x02"+second+dict+"\x08\x00\x00\x00\x00\x00\x00\x00"), "", "b")
	checkValues[string](t, chunk.Strs{}, 1, []byte("\x02\x02\x01\x00\x00\x00\x00\x00\x00\x00"+dict))
}

// shown is a value, and for how many rows it was shown.
type shown[V chunk.Value] struct {
	value V
	times int
}

// checkTally looks a body through, and asks for the values in the rows that are set.
func checkTally[V chunk.Value](t *testing.T, kind chunk.Kind[V], rows int, body string, sel uint64, want ...shown[V]) {
	t.Helper()
	c, ok := chunk.Look(kind, rows, []byte(body))
	if !ok {
		t.Fatalf("% x is not valid", body)
	}
	var got []shown[V]
	for v, times := range c.Tally([]uint64{sel}) {
		got = append(got, shown[V]{v, times})
	}
	if !slices.Equal(got, want) {
		t.Errorf("% x, rows %b: %v, want %v", body, sel, got, want)
	}
	for v, times := range c.Tally([]uint64{sel}) {
		if (shown[V]{v, times}) != want[0] {
			t.Errorf("% x, rows %b: the first is %v", body, sel, v)
		}
		break
	}
}

func TestTallyShowsWhatTheRowsHold(t *testing.T) {
	type ints = shown[int64]
	type strs = shown[string]
	second := "\x02\x00\x00\x00\x00\x00\x00\x00"
	// Rows: 2, NULL, 0, 2.
	plain := "\x01\x00" + second + second + "\x00\x00\x00\x00\x00\x00\x00\x00" + second
	checkTally(t, chunk.Ints{}, 4, plain, 0b1111, ints{2, 1}, ints{0, 1}, ints{2, 1})
	checkTally(t, chunk.Ints{}, 4, plain, 0b1110, ints{0, 1}, ints{2, 1})
	checkTally(t, chunk.Ints{}, 4, plain, 0b0010)
	checkTally(t, chunk.Ints{}, 4, plain, 0)
	frame := "\x04\x02" + second + second + "\x0c\x00\x00\x00\x00\x00\x00\x00"
	checkTally(t, chunk.Ints{}, 4, frame, 0b1111, ints{2, 1}, ints{5, 1}, ints{2, 1})
	checkTally(t, chunk.Ints{}, 4, frame, 0b0110, ints{5, 1})
	packed := "\x05\x02" + second + "\x1b\x00\x00\x00\x00\x00\x00\x00"
	checkTally(t, chunk.Ints{}, 4, packed, 0b1011, ints{3, 1}, ints{1, 1})
	// Entries "", a, b; the rows are b, NULL, "", b.
	dict := "\x02\x02" + second + "\x03\x00\x00\x00\x00\x00\x00\x00\x01\x00\x00\x00\x02\x00\x00\x00ab\x22\x00\x00\x00\x00\x00\x00\x00"
	checkTally(t, chunk.Strs{}, 4, dict, 0b1111, strs{"", 1}, strs{"b", 2})
	checkTally(t, chunk.Strs{}, 4, dict, 0b1011, strs{"b", 2})
	checkTally(t, chunk.Strs{}, 4, dict, 0b0110, strs{"", 1})
	checkTally(t, chunk.Strs{}, 4, dict, 0b0010)
	// Runs of 3, 1 and 2 values: q, NULL, q, q, "", q, q.
	runs := "\x03\x00" + second + "\x03\x00\x00\x00\x03\x00\x00\x00\x04\x00\x00\x00\x06\x00\x00\x00" +
		"\x01\x00\x00\x00\x01\x00\x00\x00\x02\x00\x00\x00qq"
	checkTally(t, chunk.Strs{}, 7, runs, 0b1111111, strs{"q", 3}, strs{"", 1}, strs{"q", 2})
	checkTally(t, chunk.Strs{}, 7, runs, 0b1001010, strs{"q", 1}, strs{"q", 1})
	checkTally(t, chunk.Strs{}, 7, runs, 0b1000000, strs{"q", 1})
	checkTally(t, chunk.Strs{}, 7, runs, 0)
}

func TestLessIsTheOrderOfValues(t *testing.T) {
	ascending := [][]api.Cell{
		{{Int: math.MinInt64}, {Int: -1}, {}, {Int: 1}, {Int: math.MaxInt64}},
		{{}, {Str: "\x00"}, {Str: "a"}, {Str: "a\x00"}, {Str: "ab"}, {Str: "b"}, {Str: "\x80"}, {Str: "\xff"}},
		{{Int: 1, Str: "b"}, {Int: 2, Str: "a"}, {Int: 2, Str: "b"}},
	}
	for _, cells := range ascending {
		for i, a := range cells {
			for k, b := range cells {
				nullA, nullB := a, b
				nullA.Null, nullB.Null = true, true
				for _, less := range []bool{chunk.Less(a, b), chunk.Less(nullA, b), chunk.Less(a, nullB)} {
					if less != (i < k) {
						t.Errorf("Less(%v, %v) is not %v", a, b, i < k)
					}
				}
			}
		}
	}
}

func TestAChunkKeepsItsParts(t *testing.T) {
	body := []byte{2, 1, 2, 0, 0, 0, 0, 0, 0, 0, 2, 0, 0, 0, 0, 0, 0, 0, 1, 0, 0, 0, 'q', 1, 0, 0, 0, 0, 0, 0, 0}
	c, ok := chunk.Look[string](chunk.Strs{}, 3, body)
	if !ok || c.Rows != 3 || c.Count != 2 || c.Codec != api.CodecDict || c.Width != 1 {
		t.Fatalf("%v %+v", ok, c)
	}
	if !slices.Equal(c.Nulls, []uint64{2}) || !slices.Equal(c.List, []string{"", "q"}) || !slices.Equal(c.Lanes, []uint64{1}) {
		t.Errorf("%+v", c)
	}
	if c.Value(0) != "q" || c.Value(1) != "" || c.Cell(0) != (api.Cell{Str: "q"}) || c.Cell(1) != (api.Cell{Null: true}) {
		t.Errorf("%+v", c)
	}
}

func TestLookRefusesRowsOutOfRange(t *testing.T) {
	nulls := make([]byte, 8*(api.MaxRows/64+1))
	for _, rows := range []int{-1, -64, api.MaxRows + 1, 1 << 40, math.MinInt, math.MaxInt} {
		for _, body := range [][]byte{nil, {5, 0}, append([]byte{5, 0}, nulls...)} {
			if _, ok := chunk.Look[int64](chunk.Ints{}, rows, body); ok {
				t.Errorf("%d rows are not refused", rows)
			}
		}
	}
}
