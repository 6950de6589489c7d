package codec_test

import (
	"math"
	"slices"
	"testing"

	"colscan/api"
	"colscan/codec"
)

// placeLists are lists of rows in several orders, with rows that occur again.
func placeLists(rows int) [][]int {
	lists := [][]int{nil}
	if rows == 0 {
		return lists
	}
	var up, mixed []int
	for row := range rows {
		up = append(up, row)
	}
	for _, x := range manyNumbers(2*rows+5, uint64(rows)) {
		mixed = append(mixed, int(x%uint64(rows)))
	}
	down := slices.Clone(up)
	slices.Reverse(down)
	return append(lists, up, down, mixed, []int{0}, []int{rows - 1}, []int{rows / 2, rows / 2, 0, rows / 2}, append(down, up...))
}

func checkGather(t *testing.T, kind int, cells []api.Cell, body []byte, idx []int) {
	t.Helper()
	var want []api.Cell
	for _, row := range idx {
		want = append(want, cells[row])
	}
	got, code := codec.Gather(kind, len(cells), body, idx)
	if code != api.ErrNone || !slices.Equal(got, want) {
		t.Fatalf("Gather of %v of %v: %v, code %d", idx, cells, got, code)
	}
}

func TestGatherGivesTheCellsAtAnyPlaces(t *testing.T) {
	for _, col := range columns() {
		for _, number := range allCodecs {
			width := widths(number)[len(widths(number))-1]
			body, code := codec.Encode(col.kind, col.cells, number, width)
			if code != api.ErrNone {
				continue
			}
			for _, idx := range placeLists(len(col.cells)) {
				checkGather(t, col.kind, col.cells, body, idx)
			}
		}
	}
	for _, s := range append(encoded(), otherBodies()...) {
		for _, idx := range placeLists(len(s.cells)) {
			checkGather(t, s.kind, s.cells, s.body, idx)
		}
	}
}

func TestGatherFromEachWidth(t *testing.T) {
	for width := range 65 {
		var cells []api.Cell
		for i, x := range manyNumbers(150, uint64(width)) {
			cells = append(cells, integer(int64(x>>1)>>max(63-width, 0)))
			if i%5 == 0 {
				cells = append(cells, null)
			}
		}
		for _, number := range []int{api.CodecFrame, api.CodecPacked} {
			body, code := codec.Encode(api.KindInt, cells, number, width)
			if code != api.ErrNone {
				t.Fatalf("codec %d, width %d: code %d", number, width, code)
			}
			for _, idx := range placeLists(len(cells)) {
				checkGather(t, api.KindInt, cells, body, idx)
			}
		}
	}
}

func TestGatherRefusesPlaces(t *testing.T) {
	for _, s := range append(encoded(), otherBodies()...) {
		rows := len(s.cells)
		for _, place := range []int{rows, rows + 1, rows + 63, -1, -64, 1 << 40, math.MinInt, math.MaxInt} {
			for _, idx := range [][]int{{place}, append(make([]int, rows), place)} {
				got, code := codec.Gather(s.kind, rows, s.body, idx)
				if code != api.ErrInput || len(got) != 0 {
					t.Errorf("%s: Gather of %v: %v, code %d", s.name, idx, got, code)
				}
				// The places come before the body.
				if _, code := codec.Gather(s.kind, rows, s.body[1:], idx); code != api.ErrInput {
					t.Errorf("%s: Gather of %v of a malformed body: code %d", s.name, idx, code)
				}
			}
		}
	}
}

func TestGatherOfMaxRowsPlaces(t *testing.T) {
	body := join([]byte{1, 0}, u64(0, 6, 7))
	got, code := codec.Gather(1, 2, body, make([]int, api.MaxRows))
	if code != api.ErrNone || !slices.Equal(got, slices.Repeat(integers(6), api.MaxRows)) {
		t.Errorf("MaxRows places: %d cells, code %d", len(got), code)
	}
	for _, b := range [][]byte{body, body[1:]} {
		if got, code := codec.Gather(1, 2, b, make([]int, api.MaxRows+1)); code != api.ErrInput || len(got) != 0 {
			t.Errorf("a place more than MaxRows: %d cells, code %d", len(got), code)
		}
	}
	if got, code := codec.Gather(1, 2, body[1:], make([]int, api.MaxRows)); code != api.ErrMalformed || len(got) != 0 {
		t.Errorf("MaxRows places of a malformed body: %d cells, code %d", len(got), code)
	}
}
