package codec_test

import (
	"bytes"
	"math"
	"slices"
	"strings"
	"testing"

	"colscan/api"
	"colscan/codec"
)

func TestDecodeOfBodiesWorkedOutByHand(t *testing.T) {
	for _, s := range append(encoded(), otherBodies()...) {
		cells, code := codec.Decode(s.kind, len(s.cells), s.body)
		if code != api.ErrNone || !slices.Equal(cells, s.cells) {
			t.Errorf("%s: %v, code %d, want %v", s.name, cells, code, s.cells)
		}
	}
}

func isMalformed(t *testing.T, name string, kind, rows int, body []byte) {
	t.Helper()
	if cells, code := codec.Decode(kind, rows, body); code != api.ErrMalformed || len(cells) != 0 {
		t.Errorf("%s: Decode gives %v, code %d", name, cells, code)
	}
	if cells, code := codec.Gather(kind, rows, body, nil); code != api.ErrMalformed || len(cells) != 0 {
		t.Errorf("%s: Gather gives %v, code %d", name, cells, code)
	}
}

func TestABodyEndsWhereItsPayloadEnds(t *testing.T) {
	for _, s := range append(encoded(), otherBodies()...) {
		for cut := range s.body {
			isMalformed(t, s.name+", cut", s.kind, len(s.cells), s.body[:cut])
		}
		for _, more := range []int{1, 4, 8, 12, 16, 64} {
			isMalformed(t, s.name+", longer", s.kind, len(s.cells), append(slices.Clone(s.body), make([]byte, more)...))
		}
	}
}

// asModel holds Decode, and Gather of all rows, against the model.
func asModel(t *testing.T, name string, kind, rows int, body []byte) {
	t.Helper()
	want, ok := modelDecode(kind, rows, body)
	if !ok {
		isMalformed(t, name, kind, rows, body)
		return
	}
	cells, code := codec.Decode(kind, rows, body)
	if code != api.ErrNone || !slices.Equal(cells, want) {
		t.Errorf("%s: body % x of %d rows: %v, code %d, want %v", name, body, rows, cells, code, want)
	}
	var idx []int
	for row := range rows {
		idx = append(idx, row)
	}
	cells, code = codec.Gather(kind, rows, body, idx)
	if code != api.ErrNone || !slices.Equal(cells, want) {
		t.Errorf("%s: body % x of %d rows: gathered %v, code %d, want %v", name, body, rows, cells, code, want)
	}
}

func TestEveryChangeOfOneByte(t *testing.T) {
	for _, s := range append(encoded(), otherBodies()...) {
		for at := range s.body {
			body := slices.Clone(s.body)
			for v := range 256 {
				body[at] = byte(v)
				asModel(t, s.name, s.kind, len(s.cells), body)
			}
		}
	}
}

func TestOtherKindsAndRows(t *testing.T) {
	for _, s := range append(encoded(), otherBodies()...) {
		for rows := range 140 {
			asModel(t, s.name, api.KindInt, rows, s.body)
			asModel(t, s.name, api.KindStr, rows, s.body)
		}
	}
}

// Some bytes of a body are exchanged for others that are likely to mean something there.
func TestManyChangesOfSeveralBytes(t *testing.T) {
	all := append(encoded(), otherBodies()...)
	likely := []byte{0, 1, 2, 3, 4, 5, 8, 64, 65, 127, 128, 255}
	for seed := range uint64(40000) {
		x := manyNumbers(12, seed*12)
		s := all[x[0]%uint64(len(all))]
		body := slices.Clone(s.body)
		for k := 1; k < 10; k += 3 {
			at := int(x[k] % uint64(len(body)+1))
			switch x[k+1] % 4 {
			case 0:
				body = slices.Insert(body, at, make([]byte, 4*(x[k+2]%3))...)
			case 1:
				body = slices.Delete(body, at, min(at+int(x[k+2]%9), len(body)))
			default:
				if at < len(body) {
					body[at] = likely[x[k+2]%uint64(len(likely))]
				}
			}
			if len(body) == 0 {
				break
			}
		}
		asModel(t, s.name, 1+int(x[10]%2), len(s.cells)+int(x[11]%3), body)
	}
}

func TestMalformedHeads(t *testing.T) {
	one := u64(1)
	for codecByte := range 256 {
		asModel(t, "an integer", 1, 1, join([]byte{byte(codecByte), 0}, u64(0), one))
		asModel(t, "no integer", 1, 0, []byte{byte(codecByte), 0})
		asModel(t, "no string", 2, 0, join([]byte{byte(codecByte), 0}, u32(0)))
		asModel(t, "a string", 2, 1, join([]byte{byte(codecByte), 0}, u64(0), u32(0)))
	}
	for width := range 256 {
		isMalformedUnless(t, "plain width", width == 0, 1, 1, join([]byte{1, byte(width)}, u64(0), one))
		isMalformedUnless(t, "runs width", width == 0, 1, 1, join([]byte{3, byte(width)}, u64(0), u32(1, 1), one))
		isMalformedUnless(t, "frame width", width <= 64, 1, 0, join([]byte{4, byte(width)}, one))
		isMalformedUnless(t, "packed width", width <= 64, 1, 0, []byte{5, byte(width)})
		isMalformedUnless(t, "packed width", 1 <= width && width <= 64, 1, 1, join([]byte{5, byte(width)}, u64(0), one))
	}
}

func isMalformedUnless(t *testing.T, name string, valid bool, kind, rows int, body []byte) {
	t.Helper()
	if !valid {
		isMalformed(t, name, kind, rows, body)
	} else if _, code := codec.Decode(kind, rows, body); code != api.ErrNone {
		t.Errorf("%s: body % x: code %d", name, body, code)
	}
}

func TestBitsOfTheNullsBeyondTheRows(t *testing.T) {
	for _, rows := range []int{1, 5, 63, 64, 65, 100} {
		for bit := range (rows + 63) / 64 * 64 {
			nulls := make([]uint64, (rows+63)/64)
			nulls[bit/64] = 1 << (bit % 64)
			values := rows
			if bit < rows {
				values--
			}
			isMalformedUnless(t, "nulls", bit < rows, 1, rows, join([]byte{1, 0}, u64(nulls...), make([]byte, 8*values)))
			isMalformedUnless(t, "nulls", bit < rows, 1, rows, join([]byte{5, 0}, u64(nulls...)))
		}
	}
}

// ascendingList writes a list of so many values that ascend.
func ascendingList(kind, count int) []byte {
	var ends []int
	var out []byte
	for i := range count {
		ends = append(ends, 2*(i+1))
		if kind == api.KindInt {
			out = append(out, u64(uint64(i))...)
		} else {
			out = append(out, byte(i>>8), byte(i))
		}
	}
	if kind == api.KindInt {
		return out
	}
	return join(u32(ends...), out)
}

func TestTheWidthByteOfADictionaryIsFixedByItsEntries(t *testing.T) {
	for _, kind := range []int{api.KindInt, api.KindStr} {
		for size := 0; size <= api.MaxDict+3; size++ {
			for width := range 70 {
				body := join([]byte{2, byte(width)}, u32(size), ascendingList(kind, size))
				valid := size <= api.MaxDict && width == modelNeed(size)
				isMalformedUnless(t, "dictionary", valid, kind, 0, body)
				if size > 0 && width > 0 && width <= 64 {
					withCode := join([]byte{2, byte(width)}, u64(0), u32(size), ascendingList(kind, size), u64(uint64(size-1)))
					isMalformedUnless(t, "dictionary", valid, kind, 1, withCode)
				}
			}
		}
	}
}

func TestEveryCodeIsBelowTheNumberOfEntries(t *testing.T) {
	for _, kind := range []int{api.KindInt, api.KindStr} {
		for size := 2; size <= api.MaxDict; size++ {
			width := modelNeed(size)
			head := join([]byte{2, byte(width)}, u64(0), u32(size), ascendingList(kind, size))
			for code := range uint64(1) << width {
				isMalformedUnless(t, "code", code < uint64(size), kind, 1, join(head, u64(code)))
			}
		}
		isMalformed(t, "a value without an entry", kind, 1, join([]byte{2, 0}, u64(0), u32(0)))
	}
}

func TestADictionaryAscends(t *testing.T) {
	for _, list := range [][]int64{{1, 1}, {2, 1}, {0, -1}, {greatest, least}, {1, 2, 2, 3}, {1, 3, 2, 4}} {
		var words []uint64
		for _, v := range list {
			words = append(words, uint64(v))
		}
		isMalformed(t, "integers", 1, 0, join([]byte{2, byte(modelNeed(len(list)))}, u32(len(list)), u64(words...)))
	}
	for _, s := range []struct {
		ends  []int
		text  string
		valid bool
	}{
		{[]int{0, 1}, "a", true}, {[]int{1, 3}, "aab", true}, {[]int{1, 2}, "\x7f\x80", true}, {[]int{2, 3}, "abb", true},
		{[]int{0, 0}, "", false}, {[]int{1, 2}, "aa", false}, {[]int{1, 1}, "a", false}, {[]int{2, 3}, "aba", false},
		{[]int{1, 2}, "\x80\x7f", false}, {[]int{1, 3}, "bab", false},
	} {
		body := join([]byte{2, 1}, u32(len(s.ends)), u32(s.ends...), []byte(s.text))
		isMalformedUnless(t, "strings "+s.text, s.valid, 2, 0, body)
	}
}

func TestRunsHaveEndsThatAscendToTheCount(t *testing.T) {
	for _, s := range []struct {
		rows  int
		ends  []int
		vals  []uint64
		valid bool
	}{
		{3, []int{3}, []uint64{7}, true}, {3, []int{1, 3}, []uint64{7, 8}, true}, {3, []int{1, 2, 3}, []uint64{7, 8, 7}, true},
		{0, nil, nil, true}, {0, []int{0}, []uint64{7}, false}, {3, nil, nil, false}, {3, []int{2}, []uint64{7}, false},
		{3, []int{4}, []uint64{7}, false}, {3, []int{0, 3}, []uint64{7, 8}, false}, {3, []int{2, 2, 3}, []uint64{7, 8, 7}, false},
		{3, []int{2, 1, 3}, []uint64{7, 8, 7}, false}, {3, []int{1, 3}, []uint64{7, 7}, false}, {3, []int{1, 4}, []uint64{7, 8}, false},
		{3, []int{1, 3, 4}, []uint64{7, 8, 7}, false}, {3, []int{3, 3}, []uint64{7, 8}, false}, {3, []int{-1, 3}, []uint64{7, 8}, false},
		{3, []int{1, 2, 3}, []uint64{7, 8, 8}, false}, {3, []int{1, 2}, []uint64{7, 8}, false},
		{3, []int{3}, []uint64{7, 8}, false}, {3, []int{1, 3}, []uint64{7}, false},
	} {
		nulls := make([]uint64, (s.rows+63)/64)
		body := join([]byte{3, 0}, u64(nulls...), u32(len(s.ends)), u32(s.ends...), u64(s.vals...))
		isMalformedUnless(t, "runs", s.valid, 1, s.rows, body)
	}
	for neighbour, valid := range map[string]bool{"b": true, "": true, "a": false} {
		body := join([]byte{3, 0}, u64(0), u32(2), u32(1, 2), u32(1, 1+len(neighbour)), []byte("a"+neighbour))
		isMalformedUnless(t, "runs of strings", valid, 2, 2, body)
	}
}

func TestNoValueOfAFrameLeaves64Bits(t *testing.T) {
	bases := []int64{least, least + 1, -5, -1, 0, 1, 5, 1 << 62, greatest - 1, greatest}
	lanes := []uint64{0, 1, 2, 5, 6, 1<<62 - 1, 1 << 62, greatest - 1, greatest, 1 << 63, 1<<63 + 1, 1<<63 + 4, 1<<63 + 5, math.MaxUint64 - 1, math.MaxUint64}
	for _, base := range bases {
		for _, lane := range lanes {
			asModel(t, "frame", 1, 1, join([]byte{4, 64}, u64(0, uint64(base), lane)))
			asModel(t, "frame", 1, 3, join([]byte{4, 64}, u64(0, uint64(base), 0, lane, 0)))
		}
		for lane := range uint64(8) {
			asModel(t, "narrow frame", 1, 2, join([]byte{4, 3}, u64(0, uint64(base), lane<<3)))
		}
	}
	for _, lane := range lanes {
		asModel(t, "packed", 1, 2, join([]byte{5, 64}, u64(0, 0, lane)))
		asModel(t, "packed", 1, 1, join([]byte{5, 63}, u64(0, lane)))
	}
}

func TestBitsOutsideTheLanes(t *testing.T) {
	for width := 1; width <= 64; width++ {
		per := 64 / width
		for bit := range 64 {
			asModel(t, "one lane", 1, 1, join([]byte{5, byte(width)}, u64(0, 1<<bit)))
			asModel(t, "a full word", 1, per, join([]byte{4, byte(width)}, u64(0, 1<<63, 1<<bit)))
			asModel(t, "a second word", 1, per+1, join([]byte{5, byte(width)}, make([]byte, 8*((per+64)/64)), u64(0, 1<<bit)))
		}
	}
}

func TestEndsOfStrings(t *testing.T) {
	long := strings.Repeat("s", api.MaxStr)
	for _, s := range []struct {
		ends  []int
		text  string
		valid bool
	}{
		{[]int{0, 0, 0}, "", true}, {[]int{1, 1, 2}, "ab", true}, {[]int{1024}, long, true}, {[]int{3, 1027}, "abc" + long, true},
		{[]int{1024, 2048}, long + long, true}, {[]int{1025}, long + "s", false}, {[]int{3, 1028}, "abcd" + long, false},
		{[]int{2, 1}, "a", false}, {[]int{2, 1}, "ab", false}, {[]int{2, 1, 2}, "ab", false}, {[]int{0, 1}, "", false},
		{[]int{1, 2}, "abc", false}, {[]int{1, 2}, "a", false}, {[]int{-1}, "", false}, {[]int{1, -1}, "a", false},
		{[]int{1 << 31}, "a", false}, {[]int{1, 1 << 31}, "a", false},
	} {
		nulls := make([]byte, 8)
		isMalformedUnless(t, "strings", s.valid, 2, len(s.ends), join([]byte{1, 0}, nulls, u32(s.ends...), []byte(s.text)))
	}
}

func TestDecodeRefusesKindsAndRows(t *testing.T) {
	for _, body := range [][]byte{nil, {1, 0}, join([]byte{1, 0}, u64(0, 1))} {
		for _, kind := range []int{0, 3, -1, 257, math.MinInt, math.MaxInt} {
			for _, rows := range []int{0, 1, -1, api.MaxRows} {
				wantsInput(t, kind, rows, body)
			}
		}
		for _, rows := range []int{-1, -64, api.MaxRows + 1, 1 << 40, math.MinInt, math.MaxInt} {
			wantsInput(t, api.KindInt, rows, body)
			wantsInput(t, api.KindStr, rows, body)
		}
	}
	wantsInput(t, api.KindInt, api.MaxRows+1, join([]byte{5, 0}, make([]byte, 8*(api.MaxRows/64+1))))
}

func wantsInput(t *testing.T, kind, rows int, body []byte) {
	t.Helper()
	if cells, code := codec.Decode(kind, rows, body); code != api.ErrInput || len(cells) != 0 {
		t.Errorf("Decode(%d, %d, %d bytes): %d cells, code %d", kind, rows, len(body), len(cells), code)
	}
	if cells, code := codec.Gather(kind, rows, body, nil); code != api.ErrInput || len(cells) != 0 {
		t.Errorf("Gather(%d, %d, %d bytes): %d cells, code %d", kind, rows, len(body), len(cells), code)
	}
}

func TestDecodeOfMaxRows(t *testing.T) {
	nulls := bytes.Repeat([]byte{0xAA}, api.MaxRows/8)
	asModel(t, "packed", 1, api.MaxRows, join([]byte{5, 0}, nulls))
	asModel(t, "one run", 1, api.MaxRows, join([]byte{3, 0}, nulls, u32(1, api.MaxRows/2), u64(9)))
	asModel(t, "one entry", 2, api.MaxRows, join([]byte{2, 0}, nulls, u32(1, 2), []byte("ab")))
	asModel(t, "no value", 2, api.MaxRows, join([]byte{1, 0}, bytes.Repeat([]byte{0xFF}, api.MaxRows/8)))
}
