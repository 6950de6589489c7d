package chunk_test

import (
	"math"
	"slices"
	"strings"
	"testing"

	"colscan/api"
	"colscan/chunk"
)

func TestNeedIsTheLeastWidth(t *testing.T) {
	for d := range 1000 {
		w := chunk.Need(d)
		if w < 0 || 1<<w < d || w > 0 && 1<<(w-1) >= d {
			t.Errorf("Need(%d) = %d", d, w)
		}
	}
}

func TestCodecsAreForKinds(t *testing.T) {
	for kind := -1; kind < 4; kind++ {
		for codec := -1; codec < 8; codec++ {
			want := kind == api.KindInt && codec >= 1 && codec <= 5 || kind == api.KindStr && codec >= 1 && codec <= 3
			if chunk.IsCodec(kind, codec) != want {
				t.Errorf("IsCodec(%d, %d) is not %v", kind, codec, want)
			}
		}
	}
}

func TestCellsOfKinds(t *testing.T) {
	long := strings.Repeat("s", api.MaxStr)
	for _, s := range []struct {
		cell     api.Cell
		int, str bool
	}{
		{api.Cell{}, true, true}, {api.Cell{Null: true}, true, true}, {api.Cell{Int: -1}, true, false},
		{api.Cell{Str: "a"}, false, true}, {api.Cell{Str: long}, false, true}, {api.Cell{Str: long + "s"}, false, false},
		{api.Cell{Int: 1, Str: "a"}, false, false}, {api.Cell{Null: true, Int: 1}, false, false},
		{api.Cell{Null: true, Str: "a"}, false, false},
	} {
		if chunk.OfKind(api.KindInt, s.cell) != s.int || chunk.OfKind(api.KindStr, s.cell) != s.str {
			t.Errorf("cell %v: of KindInt %v, of KindStr %v", s.cell, !s.int, !s.str)
		}
		for _, kind := range []int{0, 3, -1} {
			if chunk.OfKind(kind, s.cell) || chunk.IsKind(kind) {
				t.Errorf("cell %v is of kind %d", s.cell, kind)
			}
		}
	}
}

func TestAChunkKeepsItsParts(t *testing.T) {
	body := []byte{2, 1, 2, 0, 0, 0, 0, 0, 0, 0, 2, 0, 0, 0, 0, 0, 0, 0, 1, 0, 0, 0, 'q', 1, 0, 0, 0, 0, 0, 0, 0}
	c, ok := chunk.Look[string](chunk.Strs{}, 3, body)
	if !ok || c.Rows != 3 || c.Count != 2 || c.Codec != api.CodecDict || c.Width != 1 {
		t.Fatalf("%v %+v", ok, c)
	}
	if !slices.Equal(c.Nulls, []uint64{2}) || !slices.Equal(c.List, []string{"", "q"}) || !slices.Equal(c.Lanes, []uint64{1}) {
		t.Errorf("%+v", c)
	}
	if c.Value(0) != "q" || c.Value(1) != "" || c.Cell(0) != (api.Cell{Str: "q"}) || c.Cell(1) != (api.Cell{Null: true}) {
		t.Errorf("%+v", c)
	}
}

func TestLookRefusesRowsOutOfRange(t *testing.T) {
	nulls := make([]byte, 8*(api.MaxRows/64+1))
	for _, rows := range []int{-1, -64, api.MaxRows + 1, 1 << 40, math.MinInt, math.MaxInt} {
		for _, body := range [][]byte{nil, {5, 0}, append([]byte{5, 0}, nulls...)} {
			if _, ok := chunk.Look[int64](chunk.Ints{}, rows, body); ok {
				t.Errorf("%d rows are not refused", rows)
			}
		}
	}
}
