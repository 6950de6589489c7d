package codec_test

import (
	"bytes"
	"math"
	"slices"
	"strings"
	"testing"

	"colscan/api"
	"colscan/codec"
)

// askedWidth is the width that Encode is asked for to give that body.
func askedWidth(body []byte) int {
	if body[0] == api.CodecFrame || body[0] == api.CodecPacked {
		return int(body[1])
	}
	return 0
}

func TestEncodeGivesTheBodiesWorkedOutByHand(t *testing.T) {
	for _, s := range encoded() {
		body, code := codec.Encode(s.kind, s.cells, int(s.body[0]), askedWidth(s.body))
		if code != api.ErrNone || !bytes.Equal(body, s.body) {
			t.Errorf("%s: % x, code %d, want % x", s.name, body, code, s.body)
		}
	}
}

// tight tells whether a valid body is one that Encode may give: with the dictionary that holds exactly the
// values, and the base that is the smallest of them.
func tight(cells []api.Cell, body []byte) bool {
	vals := slices.DeleteFunc(slices.Clone(cells), func(c api.Cell) bool { return c.Null })
	slices.SortFunc(vals, compareCells)
	payload := body[2+(len(cells)+63)/64*8:]
	switch body[0] {
	case api.CodecDict:
		return bytes.Equal(payload[:4], u32(len(slices.Compact(vals))))
	case api.CodecFrame:
		base := int64(0)
		if len(vals) > 0 {
			base = vals[0].Int
		}
		return bytes.Equal(payload[:8], u64(uint64(base)))
	}
	return true
}

func TestEncodeOfManyColumns(t *testing.T) {
	for _, col := range columns() {
		for _, number := range allCodecs {
			if col.kind == api.KindStr && number > api.CodecRuns {
				continue
			}
			for _, width := range widths(number) {
				checkEncode(t, col, number, width)
			}
		}
	}
}

func checkEncode(t *testing.T, col column, number, width int) {
	t.Helper()
	body, code := codec.Encode(col.kind, col.cells, number, width)
	if !modelFits(col.cells, number, width) {
		if code != api.ErrCodecUnfit || len(body) != 0 {
			t.Fatalf("codec %d, width %d, cells %v: code %d, want unfit", number, width, col.cells, code)
		}
		return
	}
	if code != api.ErrNone || int(body[0]) != number || number > api.CodecRuns && int(body[1]) != width {
		t.Fatalf("codec %d, width %d, cells %v: % x, code %d", number, width, col.cells, body, code)
	}
	back, ok := modelDecode(col.kind, len(col.cells), body)
	if !ok || !slices.Equal(back, col.cells) || !tight(col.cells, body) {
		t.Fatalf("codec %d, width %d, cells %v: body % x is not the one that is due", number, width, col.cells, body)
	}
	cells, code := codec.Decode(col.kind, len(col.cells), body)
	if code != api.ErrNone || !slices.Equal(cells, col.cells) {
		t.Fatalf("codec %d, width %d, cells %v: decoded %v, code %d", number, width, col.cells, cells, code)
	}
}

// different gives cells with so many different values, each more than once, with NULLs between.
func different(kind, count int) []api.Cell {
	var cells []api.Cell
	for i := range 2*count + 1 {
		v := int64(i*7%max(count, 1)) * 1000
		if kind == api.KindInt {
			cells = append(cells, integer(v), null)
		} else {
			cells = append(cells, text(string(u64(uint64(v)))), null)
		}
	}
	return cells
}

func TestTheWidthOfADictionary(t *testing.T) {
	for _, kind := range []int{api.KindInt, api.KindStr} {
		for count := 1; count <= api.MaxDict; count++ {
			if count%7 == 0 {
				continue
			}
			body, code := codec.Encode(kind, different(kind, count), api.CodecDict, 0)
			if code != api.ErrNone || int(body[1]) != modelNeed(count) {
				t.Fatalf("kind %d, %d entries: code %d, head % x", kind, count, code, body[:min(2, len(body))])
			}
		}
		for _, count := range []int{257, 258, 300, 1000} {
			if body, code := codec.Encode(kind, different(kind, count), api.CodecDict, 0); code != api.ErrCodecUnfit || len(body) != 0 {
				t.Errorf("kind %d, %d entries: code %d", kind, count, code)
			}
		}
	}
}

func wantsCode(t *testing.T, want int, kind int, cells []api.Cell, number, width int) {
	t.Helper()
	body, code := codec.Encode(kind, cells, number, width)
	if code != want || (code == api.ErrNone) != (len(body) > 0) {
		t.Errorf("Encode of %d cells of kind %d, codec %d, width %d: %d bytes, code %d, want %d",
			len(cells), kind, number, width, len(body), code, want)
	}
}

func TestFrameAndPackedFitEachWidth(t *testing.T) {
	for width := range 64 {
		top := int64(1<<width - 1)
		wantsCode(t, api.ErrNone, 1, []api.Cell{integer(top), null, integer(0)}, api.CodecPacked, width)
		wantsCode(t, api.ErrNone, 1, []api.Cell{integer(least), null, integer(least + top)}, api.CodecFrame, width)
		wantsCode(t, api.ErrNone, 1, integers(greatest, greatest-top), api.CodecFrame, width)
		wantsCode(t, api.ErrCodecUnfit, 1, integers(0, -1), api.CodecPacked, width)
		wantsCode(t, api.ErrCodecUnfit, 1, integers(least, greatest), api.CodecFrame, width)
		wantsCode(t, api.ErrCodecUnfit, 1, []api.Cell{integer(least), null, integer(least + top + 1)}, api.CodecFrame, width)
		wantsCode(t, api.ErrCodecUnfit, 1, integers(-1, top), api.CodecFrame, width)
		if top < greatest {
			wantsCode(t, api.ErrCodecUnfit, 1, []api.Cell{integer(0), null, integer(top + 1)}, api.CodecPacked, width)
		}
	}
	wantsCode(t, api.ErrNone, 1, integers(least, greatest), api.CodecFrame, 64)
	wantsCode(t, api.ErrNone, 1, integers(0, greatest), api.CodecPacked, 64)
	for _, v := range []int64{-1, least} {
		wantsCode(t, api.ErrCodecUnfit, 1, integers(0, v), api.CodecPacked, 64)
	}
}

func TestPlainAndRunsAlwaysFit(t *testing.T) {
	for _, number := range []int{api.CodecPlain, api.CodecRuns} {
		wantsCode(t, api.ErrNone, 1, integers(least, greatest, 0, -1), number, 0)
		wantsCode(t, api.ErrNone, 1, different(1, 1000), number, 0)
		wantsCode(t, api.ErrNone, 2, different(2, 1000), number, 0)
	}
}

func TestEncodeRefusesKindsAndCodecs(t *testing.T) {
	for _, kind := range []int{0, 3, -1, 257, math.MinInt, math.MaxInt} {
		for _, number := range allCodecs {
			wantsCode(t, api.ErrInput, kind, nil, number, 0)
			wantsCode(t, api.ErrInput, kind, []api.Cell{null}, number, 0)
		}
	}
	for _, kind := range []int{api.KindInt, api.KindStr} {
		for _, number := range []int{0, 6, -1, 257, math.MinInt, math.MaxInt} {
			wantsCode(t, api.ErrInput, kind, nil, number, 0)
		}
	}
	for _, number := range []int{api.CodecFrame, api.CodecPacked} {
		wantsCode(t, api.ErrInput, api.KindStr, nil, number, 0)
		wantsCode(t, api.ErrInput, api.KindStr, []api.Cell{null}, number, 3)
	}
}

func TestEncodeRefusesWidths(t *testing.T) {
	for _, number := range []int{api.CodecPlain, api.CodecDict, api.CodecRuns} {
		for _, width := range []int{1, 8, 64, -1, 256, math.MinInt, math.MaxInt} {
			wantsCode(t, api.ErrInput, 1, nil, number, width)
			wantsCode(t, api.ErrInput, 2, texts("a", "b"), number, width)
		}
	}
	for _, number := range []int{api.CodecFrame, api.CodecPacked} {
		for _, width := range []int{-1, 65, 256, 257, math.MinInt, math.MaxInt} {
			wantsCode(t, api.ErrInput, 1, nil, number, width)
			wantsCode(t, api.ErrInput, 1, integers(1), number, width)
		}
	}
}

func TestEncodeRefusesCells(t *testing.T) {
	long := strings.Repeat("s", api.MaxStr)
	ofNone := []api.Cell{{Null: true, Int: 1}, {Null: true, Str: "a"}, {Int: 1, Str: "a"}}
	for kind, wrong := range map[int][]api.Cell{
		api.KindInt: append([]api.Cell{text("a"), text("\x00"), text(long)}, ofNone...),
		api.KindStr: append([]api.Cell{integer(1), integer(least), text(long + "s")}, ofNone...),
	} {
		for _, c := range wrong {
			for _, number := range []int{api.CodecPlain, api.CodecDict, api.CodecRuns} {
				wantsCode(t, api.ErrInput, kind, []api.Cell{c}, number, 0)
				wantsCode(t, api.ErrInput, kind, append(make([]api.Cell, 99), c), number, 0)
				wantsCode(t, api.ErrInput, kind, []api.Cell{null, c, null}, number, 0)
			}
		}
	}
	wantsCode(t, api.ErrInput, 1, []api.Cell{integer(1), text("a")}, api.CodecFrame, 64)
	wantsCode(t, api.ErrInput, 1, []api.Cell{{Null: true, Int: 1}}, api.CodecPacked, 64)
	for _, number := range []int{api.CodecPlain, api.CodecDict, api.CodecRuns} {
		wantsCode(t, api.ErrNone, 2, texts(long, "", long), number, 0)
	}
}

func TestWhatIsNotInOrderComesBeforeWhatDoesNotFit(t *testing.T) {
	wantsCode(t, api.ErrInput, 1, append(different(1, 300), text("a")), api.CodecDict, 0)
	wantsCode(t, api.ErrInput, 1, different(1, 300), api.CodecDict, 9)
	wantsCode(t, api.ErrInput, 1, []api.Cell{integer(-1), text("a")}, api.CodecPacked, 3)
	wantsCode(t, api.ErrInput, 1, []api.Cell{integer(least), integer(greatest), text("a")}, api.CodecFrame, 3)
	wantsCode(t, api.ErrInput, 1, integers(-1), api.CodecPacked, -1)
	wantsCode(t, api.ErrInput, 2, different(2, 300), api.CodecFrame, 3)
}

func TestEncodeOfMaxRows(t *testing.T) {
	full := make([]api.Cell, api.MaxRows)
	for _, number := range allCodecs {
		wantsCode(t, api.ErrNone, 1, full, number, 0)
		wantsCode(t, api.ErrInput, 1, append(slices.Clone(full), api.Cell{}), number, 0)
		wantsCode(t, api.ErrInput, 1, append(slices.Clone(full), null), number, 0)
	}
	for i := range full {
		full[i] = integer(int64(i%251) * 3)
	}
	for _, number := range allCodecs {
		width := 0
		if number > api.CodecRuns {
			width = 10
		}
		checkEncode(t, column{api.KindInt, full}, number, width)
	}
	for i := range full {
		full[i] = text(string(u32(i / 300)))
	}
	for _, number := range []int{api.CodecPlain, api.CodecDict, api.CodecRuns} {
		checkEncode(t, column{api.KindStr, full}, number, 0)
	}
}
