package codec_test

import (
	"bytes"
	"runtime"
	"slices"
	"strings"
	"testing"

	"colscan/api"
	"colscan/codec"
)

// memoryCases are bodies with empty and other answers; each stands for its cells.
func memoryCases(t *testing.T) []sample {
	t.Helper()
	cases := append(encoded(), otherBodies()...)
	for _, number := range allCodecs[:3] {
		cells := append(texts("aa", "b", "b"), slices.Repeat([]api.Cell{null}, 70)...)
		body, _ := codec.Encode(api.KindStr, cells, number, 0)
		cases = append(cases, sample{"NULLs at the end", api.KindStr, cells, body})
	}
	return cases
}

func spoil[E any](list []E, mark E) {
	_ = append(list, mark)
	_ = append(list, slices.Repeat([]E{mark}, len(list)+100)...)
	for i := range list {
		list[i] = mark
	}
}

func TestEncodeGivesNewMemory(t *testing.T) {
	behind := append(integers(1, 2), texts("a", "b")...)
	for _, s := range memoryCases(t) {
		array := append(slices.Clone(s.cells), behind...)
		kept := slices.Clone(array)
		encode := func() []byte {
			body, code := codec.Encode(s.kind, array[:len(s.cells)], int(s.body[0]), askedWidth(s.body))
			if code != api.ErrNone {
				t.Fatalf("%s: code %d", s.name, code)
			}
			return body
		}
		first, second := encode(), encode()
		want := slices.Clone(first)
		spoil(first, 0xEE)
		if !slices.Equal(array, kept) || !bytes.Equal(second, want) || !bytes.Equal(encode(), want) {
			t.Errorf("%s: the cells are %v and were %v, the bodies % x and % x", s.name, array, kept, want, second)
		}
		spoil(array[:len(s.cells)], api.Cell{Str: "spoilt"})
		if !bytes.Equal(second, want) {
			t.Errorf("%s: the body follows its cells", s.name)
		}
	}
}

// checkCells runs a call on a body, and on places, that lie in longer lists.
func checkCells(t *testing.T, s sample, want []api.Cell, call func(body []byte, idx []int) ([]api.Cell, int)) {
	t.Helper()
	// Body and places are each cut out of a list, with something behind it.
	bytesKept := append(slices.Clone(s.body), 1, 2, 3, 4, 5, 6, 7, 8)
	array := slices.Clone(bytesKept)
	placesKept := make([]int, len(want)+8)
	for i := range len(want) {
		placesKept[i] = len(want) - 1 - i
	}
	places := slices.Clone(placesKept)
	run := func() []api.Cell {
		cells, code := call(array[:len(s.body)], places[:len(want)])
		if code != api.ErrNone {
			t.Fatalf("%s: code %d", s.name, code)
		}
		return cells
	}
	first, second := run(), run()
	if !slices.Equal(first, want) {
		t.Fatalf("%s: %v, want %v", s.name, first, want)
	}
	spoil(first, api.Cell{Str: "spoilt"})
	if !bytes.Equal(array, bytesKept) || !slices.Equal(places, placesKept) {
		t.Errorf("%s: the arguments, or what lies behind them, were written into", s.name)
	}
	if !slices.Equal(second, want) || !slices.Equal(run(), want) {
		t.Errorf("%s: two answers share memory", s.name)
	}
	spoil(array[:len(s.body)], 0xEE)
	spoil(places[:len(want)], 5)
	if !slices.Equal(second, want) {
		t.Errorf("%s: the cells %v follow the body; they were %v", s.name, second, want)
	}
}

func TestDecodeAndGatherGiveNewMemory(t *testing.T) {
	for _, s := range memoryCases(t) {
		checkCells(t, s, s.cells, func(body []byte, _ []int) ([]api.Cell, int) {
			return codec.Decode(s.kind, len(s.cells), body)
		})
		turned := slices.Clone(s.cells)
		slices.Reverse(turned)
		checkCells(t, s, turned, func(body []byte, idx []int) ([]api.Cell, int) {
			return codec.Gather(s.kind, len(s.cells), body, idx)
		})
		checkCells(t, s, nil, func(body []byte, idx []int) ([]api.Cell, int) {
			return codec.Gather(s.kind, len(s.cells), body, idx)
		})
	}
}

func TestRefusedCallsLeaveTheirArguments(t *testing.T) {
	cells := append(different(1, 300), text("a"))
	cellsKept := slices.Clone(cells)
	codec.Encode(api.KindInt, cells, api.CodecDict, 0)
	codec.Encode(api.KindInt, cells[:len(cells)-1], api.CodecDict, 0)
	codec.Encode(api.KindInt, cells[:len(cells)-1], api.CodecFrame, 1)
	codec.Encode(api.KindInt, cells[:len(cells)-1], api.CodecPacked, 1)
	if !slices.Equal(cells, cellsKept) {
		t.Error("Encode wrote into its cells")
	}
	for _, s := range memoryCases(t) {
		body, idx := append(slices.Clone(s.body), 7), []int{0, -1, 3}
		kept := slices.Clone(body)
		codec.Decode(s.kind, len(s.cells), body)
		codec.Gather(s.kind, len(s.cells), body, idx)
		codec.Gather(s.kind, len(s.cells), body, idx[:0])
		if !bytes.Equal(body, kept) || !slices.Equal(idx, []int{0, -1, 3}) {
			t.Errorf("%s: a refused call wrote into its arguments", s.name)
		}
	}
}

// allocated is how many bytes a call takes from the heap.
func allocated(call func()) uint64 {
	var before, after runtime.MemStats
	runtime.ReadMemStats(&before)
	call()
	runtime.ReadMemStats(&after)
	return after.TotalAlloc - before.TotalAlloc
}

func TestNoListIsBuiltOnTheWordOfACount(t *testing.T) {
	huge := u32(-1)
	for name, body := range map[string][]byte{
		"runs":              join([]byte{3, 0}, u64(0), huge, u32(1), u64(7)),
		"dictionary":        join([]byte{2, 32}, u64(0), huge, u64(7)),
		"short dictionary":  join([]byte{2, 8}, u64(0), u32(256), u64(7)),
		"an end of strings": join([]byte{1, 0}, u64(0), huge),
		"an end of runs":    join([]byte{3, 0}, u64(0), u32(1), huge, u64(7)),
		"lanes":             join([]byte{5, 64}, u64(0)),
		"a wide lane":       join([]byte{5, 255}, u64(0, 1)),
	} {
		for _, kind := range []int{api.KindInt, api.KindStr} {
			if got := allocated(func() { codec.Decode(kind, 1, body) }); got > 1<<16 {
				t.Errorf("%s, kind %d: %d bytes are taken for a body of %d", name, kind, got, len(body))
			}
		}
	}
	for _, rows := range []int{api.MaxRows, api.MaxRows + 1, 1 << 60, -1 << 60} {
		if got := allocated(func() { codec.Decode(api.KindInt, rows, []byte{1, 0, 1, 2, 3}) }); got > 1<<16 {
			t.Errorf("%d rows: %d bytes are taken for a body of 5", rows, got)
		}
	}
}

// A short body may stand for many long strings: they must not be copied one by one.
func TestMemoryStaysWithinTheBodyAndTheRows(t *testing.T) {
	long := strings.Repeat("s", api.MaxStr)
	body := join([]byte{2, 0}, make([]byte, api.MaxRows/8), u32(1), u32(api.MaxStr), []byte(long))
	if got := allocated(func() { codec.Decode(api.KindStr, api.MaxRows, body) }); got > 100*api.MaxRows {
		t.Errorf("Decode takes %d bytes", got)
	}
	if got := allocated(func() { codec.Gather(api.KindStr, api.MaxRows, body, make([]int, api.MaxRows)) }); got > 100*api.MaxRows {
		t.Errorf("Gather takes %d bytes", got)
	}
}
