package format_test

import (
	"bytes"
	"math"
	"slices"
	"testing"

	"colscan/api"
	"colscan/format"
)

// checkLook holds what Parse, Read and Rezone say of some bytes against the model.
func checkLook(t *testing.T, name string, b []byte) bool {
	t.Helper()
	wantImage, wantTable, valid := modelLook(b)
	wantCode := api.ErrNone
	if !valid {
		wantCode, wantImage, wantTable = api.ErrMalformed, api.Image{}, api.Table{}
	}
	im, code := format.Parse(b)
	if code != wantCode || !sameImage(im, wantImage) {
		t.Fatalf("%s: Parse: code %d, %+v, want %d, %+v", name, code, im, wantCode, wantImage)
	}
	table, code := format.Read(b)
	if code != wantCode || !sameTable(table, wantTable) {
		t.Fatalf("%s: Read: code %d, %v, want %d, %v", name, code, table, wantCode, wantTable)
	}
	var zones []api.Zone
	for _, g := range im.Groups {
		for _, c := range g.Chunks {
			zones = append(zones, c.Zone)
		}
	}
	again, code := format.Rezone(b, zones)
	if code != wantCode || valid && !bytes.Equal(again, b) || !valid && len(again) != 0 {
		t.Fatalf("%s: Rezone with its own zones: code %d, want %d", name, code, wantCode)
	}
	return valid
}

func malformed(t *testing.T, name string, b []byte) {
	t.Helper()
	if checkLook(t, name, b) {
		t.Errorf("%s: the model takes it for valid", name)
	}
}

// images are valid images of several shapes.
func images(t *testing.T) [][]byte {
	t.Helper()
	table, groups := sample()
	out := [][]byte{checkWrite(t, table, groups), build([]int{2}), build([]int{1, 2, 1})}
	for seed := 1; len(out) < 9; seed++ {
		table := tableOf(1+seed%3, 3+seed%4*30, seed)
		image, code := format.Write(table, groupsOf(table, 1+seed%3, uint64(seed)))
		if code == api.ErrNone && len(image) < 1500 {
			out = append(out, image)
		}
	}
	return out
}

func TestAnImageThatIsCutOrLengthenedIsMalformed(t *testing.T) {
	malformed(t, "nothing", nil)
	for _, image := range images(t) {
		if !checkLook(t, "whole", image) {
			t.Fatal("an image is not valid")
		}
		for n := range image {
			malformed(t, "cut short", image[:n])
		}
		for _, v := range []byte{0, 1, 255} {
			malformed(t, "a byte more", append(slices.Clone(image), v))
		}
		malformed(t, "twice", join(image, image))
	}
}

func TestChangesOfUpToFourBytesOfABodyAreMalformed(t *testing.T) {
	for _, image := range images(t) {
		im, _ := format.Parse(image)
		for _, g := range im.Groups {
			for _, c := range g.Chunks {
				for at := range c.Length {
					for width := 1; width <= min(4, c.Length-at); width++ {
						for _, x := range manyNumbers(3, uint64(1000*at+width)) {
							bad := slices.Clone(image)
							bad[c.Offset+at] ^= byte(x) | 1
							for i := 1; i < width; i++ {
								bad[c.Offset+at+i] ^= byte(x >> (8 * i))
							}
							malformed(t, "a body is changed", bad)
						}
					}
				}
			}
		}
	}
}

func TestEveryByteChanged(t *testing.T) {
	valid, all := 0, 0
	for _, image := range images(t) {
		for at := range image {
			for _, x := range []byte{1, 2, 16, 128, 255} {
				bad := slices.Clone(image)
				bad[at] ^= x
				all++
				if checkLook(t, "a byte is changed", bad) {
					valid++
				}
			}
		}
	}
	// A zone may be loosened by a change, and stays sound then.
	if valid == 0 || valid > all/2 {
		t.Errorf("of %d changed images %d are valid", all, valid)
	}
}

// takeApart gives the chunks of an image, to be put together otherwise.
func takeApart(t *testing.T, image []byte) ([]int, []rawGroup) {
	t.Helper()
	im, records, ok := modelHeader(image)
	if !ok {
		t.Fatal("no image")
	}
	var groups []rawGroup
	for i, g := range im.Groups {
		raw := rawGroup{rows: g.Rows}
		for col, c := range g.Chunks {
			end := c.Offset + c.Length
			raw.chunks = append(raw.chunks, rawChunk{slices.Clone(image[c.Offset:end]), slices.Clone(image[end:][:records[i][col]])})
		}
		groups = append(groups, raw)
	}
	return im.Kinds, groups
}

// The checksums follow the change here, so that it is the bodies and the records that are asked.
func TestChangedBodiesAndRecordsWithRightChecksums(t *testing.T) {
	valid, all := 0, 0
	for _, image := range images(t) {
		kinds, groups := takeApart(t, image)
		for g := range groups {
			for col := range groups[g].chunks {
				c := &groups[g].chunks[col]
				for _, part := range []*[]byte{&c.body, &c.record} {
					kept := *part
					for _, x := range manyNumbers(300, uint64(len(image))) {
						*part = changed(kept, x)
						all++
						if checkLook(t, "a part is changed", build(kinds, groups...)) {
							valid++
						}
					}
					*part = kept
				}
			}
		}
	}
	if valid < 100 || valid > all/2 {
		t.Errorf("of %d changed images %d are valid", all, valid)
	}
}

// changed gives b with a byte changed, taken out or put in.
func changed(b []byte, x uint64) []byte {
	at := int(x>>16) % (len(b) + 1)
	v := []byte{0, 1, 2, 255, byte(x >> 48)}[x>>40%5]
	switch {
	case x%8 == 0:
		return slices.Insert(slices.Clone(b), at, v)
	case at == len(b):
		return b[:max(0, at-1)]
	case x%8 == 1:
		return slices.Delete(slices.Clone(b), at, at+1)
	}
	out := slices.Clone(b)
	out[at] = v
	return out
}

// withNumber puts a u32 into an image.
func withNumber(image []byte, at, n int) []byte {
	out := slices.Clone(image)
	copy(out[at:], u32(n))
	return out
}

func TestHeadersOutOfOrder(t *testing.T) {
	for _, image := range images(t) {
		for _, at := range []int{0, 4, 8, 12} {
			kept := int(u32Of(image[at:]))
			for _, n := range []int{0, 1, 2, 16, 17, 256, 257, 65536, 65537, 1 << 31, math.MaxUint32, kept + 1, kept - 1} {
				if n >= 0 && n != kept {
					malformed(t, "a number of the header", withNumber(image, at, n))
				}
			}
		}
	}
	for _, magic := range []string{"CSI2", "csi1", "1ISC", "CSI\x00"} {
		malformed(t, magic, join([]byte(magic), u32(1, 0, 0), []byte{1}))
	}
	for _, kind := range []byte{0, 3, 255} {
		malformed(t, "a kind", join([]byte("CSI1"), u32(1, 0, 0), []byte{kind}))
		malformed(t, "the last kind", join([]byte("CSI1"), u32(2, 0, 0), []byte{1, kind}))
	}
	malformed(t, "no columns", build(nil))
	malformed(t, "rows without groups", join([]byte("CSI1"), u32(1, 0, 1), []byte{1}))
	malformed(t, "no room for the kinds", join([]byte("CSI1"), u32(2, 0, 0), []byte{1}))
}

func u32Of(b []byte) uint64 {
	s := scanner{left: b}
	return s.number(4)
}

func emptyGroups(count, columns int) []rawGroup {
	chunks := slices.Repeat([]rawChunk{{[]byte{1, 0}, []byte{0}}}, columns)
	return slices.Repeat([]rawGroup{{0, chunks}}, count)
}

func TestLimitsOfAnImage(t *testing.T) {
	kinds := slices.Repeat([]int{1}, api.MaxCols+1)
	if !checkLook(t, "all columns, all groups", build(kinds[1:], emptyGroups(api.MaxGroups, api.MaxCols)...)) {
		t.Error("all columns and groups are refused")
	}
	malformed(t, "a column more", build(kinds, emptyGroups(1, api.MaxCols+1)...))
	malformed(t, "a column more, no groups", build(kinds))
	malformed(t, "a group more", build([]int{1}, emptyGroups(api.MaxGroups+1, 1)...))
	nulls := join([]byte{1, 0}, slices.Repeat([]byte{255}, api.MaxRows/8))
	if !checkLook(t, "all rows", one(1, api.MaxRows, nulls, []byte{0})) {
		t.Error("all rows are refused")
	}
	malformed(t, "a row more", one(1, api.MaxRows+1, join(nulls, u64(1)), []byte{0}))
	single := rawGroup{1, []rawChunk{{join([]byte{1, 0}, u64(1)), []byte{0}}}}
	malformed(t, "a row more in a second group", build([]int{1}, rawGroup{api.MaxRows, []rawChunk{{nulls, []byte{0}}}}, single))
}

func TestRowsThatDoNotAddUp(t *testing.T) {
	one := rawGroup{1, []rawChunk{{join([]byte{1, 0}, u64(0, 7)), []byte{0}}}}
	image := build([]int{1}, one, one)
	if !checkLook(t, "two rows", image) {
		t.Fatal("not valid")
	}
	for _, n := range []int{0, 1, 3, 1<<32 - 1} {
		malformed(t, "the rows of the header", withNumber(image, 12, n))
	}
	// The second sum is right modulo 2^32.
	for _, rows := range [][2]int{{0, 2}, {2, 0}, {math.MaxUint32, 3}, {1 << 31, 1<<31 + 2}} {
		malformed(t, "the rows of the groups", withNumber(withNumber(image, 17, rows[0]), 37, rows[1]))
	}
}

// twoChunks has two chunks; the entries begin at 22 and 38, the data at 54 and 61.
func twoChunks() []byte {
	body := []byte{1, 0}
	return build([]int{1, 1}, rawGroup{0, []rawChunk{{body, join([]byte{1}, u32(0))}, {body, []byte{0}}}})
}

func TestChunksLieOneBehindTheOther(t *testing.T) {
	image := twoChunks()
	if !checkLook(t, "two chunks", image) || len(image) != 64 {
		t.Fatalf("not valid, or not of 64 bytes: %d", len(image))
	}
	const first, second, data = 22, 38, 54
	for _, n := range []int{0, 1, 53, 55, 61, 1 << 31, math.MaxUint32} {
		malformed(t, "the first offset", withNumber(image, first, n))
	}
	for _, n := range []int{0, 54, 60, 62, 64, 1 << 31, math.MaxUint32} {
		malformed(t, "the second offset", withNumber(image, second, n))
	}
	gap := slices.Insert(slices.Clone(image), data, 0)
	malformed(t, "a gap before the data", withNumber(withNumber(gap, first, data+1), second, 62))
	gap = slices.Insert(slices.Clone(image), 61, 0)
	malformed(t, "a gap between the chunks", withNumber(gap, second, 62))
	// Two chunks that share their bytes: both entries are right for themselves.
	shared := slices.Delete(slices.Clone(image), 61, 64)
	copy(shared[second:second+16], shared[first:first+16])
	malformed(t, "shared bytes", shared)
	// The chunks in the other order, each found by its offset.
	turned := slices.Clone(image)
	copy(turned[first:], join(image[second:data], image[first:second]))
	copy(turned[data:], join(image[61:], image[data:61]))
	if !checkLook(t, "turned", withNumber(withNumber(turned, first, data), second, 57)) {
		t.Error("the chunks turned, in order again, are not valid")
	}
	malformed(t, "the other order", withNumber(withNumber(turned, first, 57), second, data))
	// These lengths come out right modulo 2^32 alone.
	wrapped := withNumber(withNumber(image, first+4, 1<<31+2), first+12, 1<<31+5)
	malformed(t, "lengths that wrap", wrapped)
	malformed(t, "a length that wraps", withNumber(withNumber(image, first+4, math.MaxUint32), first+12, 8))
	malformed(t, "the last lengths wrap", withNumber(withNumber(image, second+4, 1<<31+2), second+12, 1<<31+1))
	malformed(t, "body and record shifted", withNumber(withNumber(image, first+4, 3), first+12, 4))
	malformed(t, "no record", withNumber(withNumber(image, second+4, 3), second+12, 0))
	malformed(t, "no body", withNumber(withNumber(image, second+4, 0), second+12, 3))
}

func TestTheChecksumCoversTheBodyAlone(t *testing.T) {
	body, record := join([]byte{1, 0}, u64(0, 7)), []byte{0}
	image := one(1, 1, body, record)
	if !checkLook(t, "the body's checksum", image) {
		t.Fatal("not valid")
	}
	for _, sum := range []uint32{0, 1, ^format.Checksum(body), format.Checksum(join(body, record)), format.Checksum(body[2:]), format.Checksum(record)} {
		malformed(t, "another checksum", withNumber(image, 29, int(sum)))
	}
	// The record may change, and the checksum stays.
	loose := one(1, 1, body, modelRecord(1, 1, api.Zone{Range: true, Min: integer(-7), Max: integer(70)}))
	if !checkLook(t, "another record", loose) || !bytes.Equal(loose[29:33], image[29:33]) {
		t.Error("the checksum hangs on the record")
	}
}

func TestBodiesOfAnotherKindOrAnotherNumberOfRows(t *testing.T) {
	for _, c := range []struct {
		kind, rows int
		body       []byte
		valid      bool
	}{
		{1, 1, join([]byte{1, 0}, u64(0, 7)), true},
		{2, 1, join([]byte{1, 0}, u64(0, 7)), false},
		{1, 2, join([]byte{1, 0}, u64(0, 7)), false},
		{1, 0, join([]byte{1, 0}, u64(0, 7)), false},
		{2, 2, join([]byte{1, 0}, u64(0), u32(1, 2), []byte("ab")), true},
		{1, 2, join([]byte{1, 0}, u64(0), u32(1, 2), []byte("ab")), false},
		{1, 1, join([]byte{4, 0}, u64(0, 7)), true},
		{2, 1, join([]byte{4, 0}, u64(0, 7)), false},
		{2, 1, join([]byte{5, 0}, u64(0)), false},
		{1, 1, []byte{1}, false}, {1, 0, []byte{1}, false}, {1, 0, nil, false}, {1, 0, []byte{0, 0}, false},
	} {
		if checkLook(t, "a body", one(c.kind, c.rows, c.body, []byte{0})) != c.valid {
			t.Errorf("% x, kind %d, %d rows: valid is not %v", c.body, c.kind, c.rows, c.valid)
		}
	}
}

// Every byte string has an answer; nothing here is near to an image but its first bytes.
func TestBytesOfAnyKind(t *testing.T) {
	for n := range 400 {
		b := u64(manyNumbers(n/8+1, uint64(n))...)[:n]
		malformed(t, "any bytes", b)
		malformed(t, "any bytes behind the magic", join([]byte("CSI1"), b))
		malformed(t, "any bytes behind a header", join([]byte("CSI1"), u32(2, 1+n%3, 5), []byte{1, 2}, b))
	}
}
