package kernel_test

import (
	"slices"
	"strings"
	"testing"

	"colscan/api"
	"colscan/codec"
	"colscan/kernel"
)

func checkFold(t *testing.T, c chunkOf, flags []bool) {
	t.Helper()
	want := modelPart(c.cells, flags)
	got, code := kernel.Fold(c.kind, len(c.cells), c.body, bitmap(flags))
	if code != api.ErrNone || got != want {
		t.Fatalf("%s, codec %d, width %d, %d cells %v, rows %v: code %d, %v, want %v",
			c.name, c.body[0], c.body[1], len(c.cells), front(c.cells), front(flags), code, got, want)
	}
}

// selections are choices of n rows: none, all, the first, the last, every third, half, few, and stretches.
func selections(n int) [][]bool {
	lists := make([][]bool, 8)
	for i, x := range manyNumbers(n, 31) {
		for k, flag := range []bool{false, true, i == 0, i == n-1, i%3 == 0, x%2 == 0, x%11 == 0, i/17%2 == 1} {
			lists[k] = append(lists[k], flag)
		}
	}
	return lists
}

func TestFoldTellsOfTheSelectedValues(t *testing.T) {
	for _, c := range allBodies() {
		for _, flags := range selections(len(c.cells)) {
			checkFold(t, c, flags)
		}
	}
}

func TestFoldOfSingleRows(t *testing.T) {
	for _, cells := range withNulls(intColumn(130, 1)) {
		for _, c := range encodings(api.KindInt, cells) {
			for row, cell := range cells {
				sel := make([]uint64, 3)
				sel[row/64] = 1 << (row % 64)
				want := api.Part{Count: 1, Low: uint64(cell.Int), Min: cell, Max: cell}
				if cell.Null {
					want = api.Part{}
				}
				if got, code := kernel.Fold(api.KindInt, len(cells), c.body, sel); code != api.ErrNone || got != want {
					t.Fatalf("codec %d, row %d: code %d, %v, want %v", c.body[0], row, code, got, want)
				}
			}
		}
	}
}

func TestFoldOfNoValueIsTheZeroPart(t *testing.T) {
	cells := []api.Cell{null, integer(4), null, integer(-4), null}
	for _, c := range encodings(api.KindInt, cells) {
		// Rows that are NULL, no rows, and rows whose values make a sum of 0.
		for sel, want := range map[uint64]api.Part{
			0b10101: {}, 0: {}, 1: {}, 0b11111: {Count: 2, Min: integer(-4), Max: integer(4)}, 0b01110: {Count: 2, Min: integer(-4), Max: integer(4)},
			0b01000: {Count: 1, High: -1, Low: 1<<64 - 4, Min: integer(-4), Max: integer(-4)},
		} {
			if got, code := kernel.Fold(api.KindInt, 5, c.body, []uint64{sel}); code != api.ErrNone || got != want {
				t.Errorf("codec %d, rows %b: code %d, %v, want %v", c.body[0], sel, code, got, want)
			}
		}
	}
}

func TestFoldOfEntriesThatNoSelectedRowHolds(t *testing.T) {
	// The least and the greatest entry stand in no row, or in none that is selected.
	body := join([]byte{2, 3}, u64(0), u32(5), u64(1, 2, 3, 4, 5), u64(1|3<<3|2<<6))
	for sel, want := range map[uint64]api.Part{
		7: {Count: 3, Low: 9, Min: integer(2), Max: integer(4)},
		5: {Count: 2, Low: 5, Min: integer(2), Max: integer(3)},
		4: {Count: 1, Low: 3, Min: integer(3), Max: integer(3)},
	} {
		if got, code := kernel.Fold(api.KindInt, 3, body, []uint64{sel}); code != api.ErrNone || got != want {
			t.Errorf("rows %b: code %d, %v, want %v", sel, code, got, want)
		}
	}
}

func TestSumsHave128Bits(t *testing.T) {
	for _, s := range []struct {
		cells []api.Cell
		want  api.Part
	}{
		{integers(greatest, 1), api.Part{Count: 2, High: 0, Low: 1 << 63, Min: integer(1), Max: integer(greatest)}},
		{integers(greatest, greatest, 2), api.Part{Count: 3, High: 1, Low: 0, Min: integer(2), Max: integer(greatest)}},
		{integers(least, -1), api.Part{Count: 2, High: -1, Low: 1<<63 - 1, Min: integer(least), Max: integer(-1)}},
		{integers(least, least), api.Part{Count: 2, High: -1, Low: 0, Min: integer(least), Max: integer(least)}},
		{integers(least, least, -1), api.Part{Count: 3, High: -2, Low: full, Min: integer(least), Max: integer(-1)}},
		{integers(least, least, least), api.Part{Count: 3, High: -2, Low: 1 << 63, Min: integer(least), Max: integer(least)}},
		{integers(least, greatest), api.Part{Count: 2, High: -1, Low: full, Min: integer(least), Max: integer(greatest)}},
		{integers(-1, 1), api.Part{Count: 2, Min: integer(-1), Max: integer(1)}},
		{integers(-1, -1, -1), api.Part{Count: 3, High: -1, Low: 1<<64 - 3, Min: integer(-1), Max: integer(-1)}},
		{integers(1, -1, -1), api.Part{Count: 3, High: -1, Low: full, Min: integer(-1), Max: integer(1)}},
		{slices.Repeat(integers(greatest), api.MaxRows), api.Part{Count: api.MaxRows, High: 1<<15 - 1, Low: 1<<64 - api.MaxRows, Min: integer(greatest), Max: integer(greatest)}},
		{slices.Repeat(integers(least), api.MaxRows), api.Part{Count: api.MaxRows, High: -1 << 15, Low: 0, Min: integer(least), Max: integer(least)}},
		{slices.Repeat(integers(-3), api.MaxRows), api.Part{Count: api.MaxRows, High: -1, Low: 1<<64 - 3*api.MaxRows, Min: integer(-3), Max: integer(-3)}},
	} {
		all := slices.Repeat([]bool{true}, len(s.cells))
		if modelPart(s.cells, all) != s.want {
			t.Fatalf("the model differs: %v, want %v", modelPart(s.cells, all), s.want)
		}
		for _, c := range encodings(api.KindInt, s.cells) {
			got, code := kernel.Fold(api.KindInt, len(s.cells), c.body, bitmap(all))
			if code != api.ErrNone || got != s.want {
				t.Errorf("codec %d, width %d, %d cells: code %d, %v, want %v", c.body[0], c.body[1], len(s.cells), code, got, s.want)
			}
		}
	}
}

func TestFoldOfMaxRows(t *testing.T) {
	cells := make([]api.Cell, api.MaxRows)
	for i, x := range manyNumbers(api.MaxRows, 3) {
		cells[i] = integer(int64(x>>8%100) + int64(i/500))
		if x%7 == 0 {
			cells[i] = null
		}
	}
	for _, c := range encodings(api.KindInt, cells) {
		for _, flags := range selections(api.MaxRows)[1:6] {
			checkFold(t, c, flags)
		}
	}
}

func TestFoldOfStrings(t *testing.T) {
	long := text(strings.Repeat("\xff", api.MaxStr))
	cells := []api.Cell{text("b"), null, text(""), text("ab"), long, text("\x7f"), text("b\x00"), null}
	for _, c := range encodings(api.KindStr, cells) {
		for sel, want := range map[uint64]api.Part{
			0xFF:       {Count: 6, Min: text(""), Max: long},
			0b11100001: {Count: 3, Min: text("b"), Max: text("\x7f")},
			0b01000001: {Count: 2, Min: text("b"), Max: text("b\x00")},
			0b00001010: {Count: 1, Min: text("ab"), Max: text("ab")},
			0b00000100: {Count: 1, Min: text(""), Max: text("")},
			0b10000010: {},
		} {
			if got, code := kernel.Fold(api.KindStr, 8, c.body, []uint64{sel}); code != api.ErrNone || got != want {
				t.Errorf("codec %d, rows %b: code %d, %v, want %v", c.body[0], sel, code, got, want)
			}
		}
	}
}

// foldOf folds all of the cells, in a codec that they fit.
func foldOf(t *testing.T, kind int, cells []api.Cell, number, width int) api.Part {
	t.Helper()
	body, code := codec.Encode(kind, cells, number, width)
	if code != api.ErrNone {
		t.Fatalf("Encode: code %d", code)
	}
	part, code := kernel.Fold(kind, len(cells), body, bitmap(slices.Repeat([]bool{true}, len(cells))))
	if code != api.ErrNone {
		t.Fatalf("Fold: code %d", code)
	}
	return part
}
