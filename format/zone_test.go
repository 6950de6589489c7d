package format_test

import (
	"bytes"
	"math"
	"slices"
	"strings"
	"testing"

	"colscan/api"
	"colscan/codec"
	"colscan/format"
)

var longest = strings.Repeat("z", api.MaxStr)

// fullBloom has everything.
func fullBloom(words int) []uint64 { return slices.Repeat([]uint64{full}, words) }

// zonesInOrder lists zones in order for the kind and that many rows, sound for some chunks and not for others.
func zonesInOrder(kind, rows int) []api.Zone {
	zones := []api.Zone{{}, {Range: true, Nulls: rows}}
	bounds := integers(least, -7, 0, 5, greatest)
	if kind == api.KindStr {
		bounds = texts("", "\x00", "a", "ab", "b", "\xff\xff", longest)
	}
	for _, nulls := range []int{0, 1, 2, rows - 1} {
		for _, lower := range bounds {
			for _, upper := range bounds {
				if nulls >= 0 && nulls < rows {
					zones = append(zones, api.Zone{Range: true, Nulls: nulls, Min: lower, Max: upper})
				}
			}
		}
	}
	for i, filter := range [][]uint64{{0}, {full}, {1, 0, 0}, fullBloom(3), fullBloom(64), make([]uint64, 64), manyNumbers(2, 1)} {
		for _, hashes := range []int{1, 3, 8} {
			z := zones[(7*i+hashes)%len(zones)]
			z.Bloom, z.Hashes = filter, hashes
			zones = append(zones, z, api.Zone{Bloom: filter, Hashes: hashes})
		}
	}
	return zones
}

// chunksOf lists chunks of a kind, with few rows.
func chunksOf(t *testing.T, kind int) [][]api.Cell {
	t.Helper()
	lists := [][]api.Cell{nil, {null}, {null, null}, integers(0), integers(5, -7), {integer(5), null, integer(5)}, integers(least, greatest)}
	if kind == api.KindStr {
		lists = [][]api.Cell{nil, {null}, {null, null}, texts(""), texts("a", "b"), {text("ab"), null, text("\x00")}, texts("", longest, "\xff\xff")}
	}
	for style := range 12 {
		lists = append(lists, columnOf(kind, 7, style))
	}
	return lists
}

func TestEveryZoneInOrderIsWrittenAndReadBack(t *testing.T) {
	for kind := api.KindInt; kind <= api.KindStr; kind++ {
		tried, valid := 0, 0
		for i, cells := range chunksOf(t, kind) {
			codecOf := []int{api.CodecPlain, api.CodecDict, api.CodecRuns}[i%3]
			body, _ := codec.Encode(kind, cells, codecOf, 0)
			image := one(kind, len(cells), body, []byte{0})
			tight := modelZoneOf(kind, cells, api.Plan{Range: true, Bloom: 2, Hashes: 2})
			for _, z := range append(zonesInOrder(kind, len(cells)), tight) {
				got, code := format.Rezone(image, []api.Zone{z})
				if code != api.ErrNone || !bytes.Equal(got, one(kind, len(cells), body, modelRecord(kind, len(cells), z))) {
					t.Fatalf("Rezone of %v with %+v: code %d", cells, z, code)
				}
				sound := modelSound(kind, cells, z)
				if checkLook(t, "other zones", got) != sound {
					t.Fatalf("Rezone of %v with %+v: valid is not %v", cells, z, sound)
				}
				tried++
				if sound {
					valid++
				}
			}
		}
		if valid < 50 || valid > tried/2 {
			t.Errorf("of %d zones %d are sound", tried, valid)
		}
	}
}

// A zone that is not tight is sound; one step further it is not.
func TestTheEdgesOfSoundness(t *testing.T) {
	for kind, cells := range map[int][]api.Cell{
		api.KindInt: {integer(-3), null, integer(0), integer(9)},
		api.KindStr: {text("b"), null, text("ba"), text("c\x00")},
	} {
		lows, highs := integers(least, -4, -3, -2, 0), integers(8, 9, 10, greatest)
		if kind == api.KindStr {
			lows, highs = texts("", "a\xff", "b", "b\x00", "ba"), texts("c", "c\x00", "c\x00\x00", "\xff")
		}
		body, _ := codec.Encode(kind, cells, api.CodecPlain, 0)
		image := one(kind, 4, body, []byte{0})
		for i, low := range lows {
			for j, high := range highs {
				for nulls := range 4 {
					z := api.Zone{Range: true, Nulls: nulls, Min: low, Max: high}
					got, _ := format.Rezone(image, []api.Zone{z})
					if sound := i <= 2 && j >= 1 && nulls == 1; checkLook(t, "edges", got) != sound {
						t.Errorf("%+v: sound is not %v", z, sound)
					}
				}
			}
		}
		all, _ := format.Rezone(image, []api.Zone{{Range: true, Nulls: 4}})
		malformed(t, "no bounds for values", all)
	}
}

func TestAFilterIsSoundIfNoPlaceOfAValueIsMissing(t *testing.T) {
	for kind := api.KindInt; kind <= api.KindStr; kind++ {
		cells := columnOf(kind, 20, 5)
		for _, codecOf := range []int{api.CodecPlain, api.CodecDict, api.CodecRuns} {
			body, _ := codec.Encode(kind, cells, codecOf, 0)
			image := one(kind, len(cells), body, []byte{0})
			filter := modelBloom(kind, cells, 3, 2)
			for p := range 128 {
				z := api.Zone{Hashes: 3, Bloom: slices.Clone(filter)}
				needed := filter[p/64]>>(p%64)&1 == 1
				z.Bloom[p/64] ^= 1 << (p % 64)
				got, _ := format.Rezone(image, []api.Zone{z})
				if checkLook(t, "a place is changed", got) == needed {
					t.Fatalf("kind %d, codec %d, place %d: sound is %v", kind, codecOf, p, needed)
				}
			}
		}
	}
}

// An entry of the dictionary that is not used is no value of the chunk.
func TestUnusedEntriesNeedNotBeInTheZone(t *testing.T) {
	ints := join([]byte{2, 2}, u64(4), u32(3), u64(1<<64-9, 4, 50), u64(1|1<<2|1<<4))
	strs := join([]byte{2, 2}, u64(4), u32(3), u32(0, 1, 2), []byte("ac"), u64(1|1<<2|1<<4))
	for kind, c := range map[int]struct {
		body []byte
		v    api.Cell
	}{api.KindInt: {ints, integer(4)}, api.KindStr: {strs, text("a")}} {
		image := one(kind, 4, c.body, []byte{0})
		z := api.Zone{Range: true, Nulls: 1, Min: c.v, Max: c.v, Hashes: 2, Bloom: modelBloom(kind, []api.Cell{c.v}, 2, 2)}
		got, code := format.Rezone(image, []api.Zone{z})
		if code != api.ErrNone || !checkLook(t, "unused entries", got) {
			t.Errorf("kind %d: a zone around what is used is refused: code %d", kind, code)
		}
	}
	nulls := join([]byte{2, 1}, u64(1), u32(2), u64(3, 8))
	got := one(api.KindInt, 1, nulls, modelRecord(1, 1, api.Zone{Range: true, Nulls: 1, Hashes: 1, Bloom: []uint64{0}}))
	if !checkLook(t, "no entry is used", got) {
		t.Error("a dictionary without values is asked")
	}
}

// zonesOutOfOrder lists zones that are not in order for integers and three rows.
func zonesOutOfOrder() []api.Zone {
	a, b := integer(1), integer(2)
	return []api.Zone{
		{Nulls: 1}, {Nulls: 3}, {Nulls: -1}, {Min: a}, {Max: b}, {Min: a, Max: b}, {Min: null}, {Max: null}, {Max: text("a")},
		{Range: true, Nulls: -1}, {Range: true, Nulls: -1, Min: a, Max: b}, {Range: true, Nulls: 4}, {Range: true, Nulls: 4, Min: a, Max: b},
		{Range: true, Nulls: math.MaxInt}, {Range: true, Nulls: math.MinInt}, {Range: true, Nulls: 1<<32 + 1, Min: a, Max: b},
		{Range: true, Nulls: 3, Min: a}, {Range: true, Nulls: 3, Max: b}, {Range: true, Nulls: 3, Min: null, Max: null},
		{Range: true, Nulls: 1, Min: null, Max: b}, {Range: true, Nulls: 1, Min: a, Max: null}, {Range: true, Nulls: 1, Min: text("a"), Max: b},
		{Range: true, Nulls: 1, Min: a, Max: text("a")}, {Range: true, Nulls: 1, Min: api.Cell{Int: 1, Str: "a"}, Max: b},
		{Hashes: 1}, {Hashes: -1}, {Hashes: 8, Bloom: []uint64{}}, {Bloom: []uint64{0}}, {Bloom: []uint64{full}, Hashes: 9},
		{Bloom: []uint64{full}, Hashes: -1}, {Bloom: []uint64{full}, Hashes: 257}, {Bloom: fullBloom(65), Hashes: 1}, {Bloom: fullBloom(500), Hashes: 8},
	}
}

func TestRezoneRefusesZonesOutOfOrder(t *testing.T) {
	body, _ := codec.Encode(1, []api.Cell{integer(1), null, integer(2)}, api.CodecPlain, 0)
	group := rawGroup{3, []rawChunk{{body, []byte{0}}, {body, []byte{0}}}}
	image := build([]int{1, 1}, group, group)
	for _, z := range zonesOutOfOrder() {
		for place := range 4 {
			zones := make([]api.Zone, 4)
			zones[place] = z
			if got, code := format.Rezone(image, zones); code != api.ErrInput || len(got) != 0 {
				t.Errorf("%+v at %d: code %d", z, place, code)
			}
			// That the image is malformed comes first.
			if got, code := format.Rezone(image[:len(image)-1], zones); code != api.ErrMalformed || len(got) != 0 {
				t.Errorf("%+v at %d, a cut image: code %d", z, place, code)
			}
		}
	}
	str, _ := codec.Encode(2, texts("a", "b"), api.CodecPlain, 0)
	for _, z := range []api.Zone{
		{Range: true, Min: integer(1), Max: text("b")}, {Range: true, Min: text("a"), Max: text(longest + "z")}, {Range: true, Min: text("a"), Max: null},
	} {
		if got, code := format.Rezone(one(2, 2, str, []byte{0}), []api.Zone{z}); code != api.ErrInput || len(got) != 0 {
			t.Errorf("%+v for strings: code %d", z, code)
		}
	}
}

func TestRezoneWantsAZoneForEachChunk(t *testing.T) {
	for _, image := range append(images(t), twoChunks()) {
		im, _, _ := modelHeader(image)
		count := len(im.Kinds) * len(im.Groups)
		for _, n := range []int{0, 1, 2, count - 1, count, count + 1, 2 * count, len(im.Kinds), len(im.Groups)} {
			if n < 0 {
				continue
			}
			got, code := format.Rezone(image, make([]api.Zone, n))
			if (code == api.ErrNone) != (n == count) || n != count && (code != api.ErrInput || len(got) != 0) {
				t.Errorf("%d zones for %d chunks: code %d", n, count, code)
			}
		}
	}
}

// Each chunk gets its own zone; nothing but the records, the offsets and the lengths of the zones changes.
func TestRezoneChangesTheZonesAlone(t *testing.T) {
	for _, image := range images(t) {
		kinds, groups := takeApart(t, image)
		_, table, _ := modelLook(image)
		for seed := range 20 {
			var zones []api.Zone
			var first int
			for _, g := range groups {
				for col := range g.chunks {
					var cells []api.Cell
					for _, row := range table.Rows[first : first+g.rows] {
						cells = append(cells, row[col])
					}
					plans := plansOf(kinds[col])
					z := modelZoneOf(kinds[col], cells, plans[manyNumbers(1, uint64(100*seed+len(zones)))[0]%uint64(len(plans))])
					g.chunks[col].record = modelRecord(kinds[col], g.rows, z)
					zones = append(zones, z)
				}
				first += g.rows
			}
			got, code := format.Rezone(image, zones)
			if code != api.ErrNone || !bytes.Equal(got, build(kinds, groups...)) {
				t.Fatalf("code %d, %d bytes", code, len(got))
			}
			checkRead(t, got, table)
			checkOneUnsound(t, got, zones)
		}
	}
}

// checkOneUnsound makes one zone after the other unsound: each makes the image malformed.
func checkOneUnsound(t *testing.T, image []byte, zones []api.Zone) {
	t.Helper()
	for i, z := range zones {
		if !z.Range || z.Min == z.Max {
			continue
		}
		other := slices.Clone(zones)
		other[i].Min, other[i].Max = z.Max, z.Min
		got, code := format.Rezone(image, other)
		if code != api.ErrNone {
			t.Fatalf("zone %d turned: code %d", i, code)
		}
		malformed(t, "an unsound zone", got)
	}
}

func TestRecordsOneByOne(t *testing.T) {
	ints, _ := codec.Encode(1, []api.Cell{integer(1), null, integer(2)}, api.CodecPlain, 0)
	strs, _ := codec.Encode(2, []api.Cell{text("a"), null, text("b")}, api.CodecPlain, 0)
	filter := join([]byte{8}, u32(1), u64(full))
	for _, c := range []struct {
		name   string
		kind   int
		record []byte
		valid  bool
	}{
		{"nothing", 1, []byte{0}, true}, {"no byte", 1, nil, false}, {"a byte more", 1, []byte{0, 0}, false},
		{"a flag too many", 1, []byte{4}, false}, {"the last flag", 1, []byte{128}, false},
		{"a range", 1, join([]byte{1}, u32(1), u64(1, 2)), true}, {"a range with a byte more", 1, join([]byte{1}, u32(1), u64(1, 2), []byte{0}), false},
		{"a range without a flag", 1, join([]byte{0}, u32(1), u64(1, 2)), false}, {"a range with another flag", 1, join([]byte{5}, u32(1), u64(1, 2)), false},
		{"no bounds", 1, join([]byte{1}, u32(1)), false}, {"a bound", 1, join([]byte{1}, u32(1), u64(1)), false}, {"no number", 1, []byte{1}, false},
		{"all are NULL", 1, join([]byte{1}, u32(3)), false}, {"all are NULL, with bounds", 1, join([]byte{1}, u32(3), u64(1, 2)), false},
		{"more NULLs than rows", 1, join([]byte{1}, u32(4), u64(1, 2)), false}, {"NULLs below 0", 1, join([]byte{1}, u32(-1), u64(1, 2)), false},
		{"strings", 2, join([]byte{1}, u32(1), u32(1), []byte("a"), u32(1), []byte("b")), true},
		{"an empty string", 2, join([]byte{1}, u32(1), u32(0), u32(1), []byte("b")), true},
		{"a string that is too short", 2, join([]byte{1}, u32(1), u32(1), []byte("a"), u32(2), []byte("b")), false},
		{"a string that is too long", 2, join([]byte{1}, u32(1), u32(1), []byte("a"), u32(1), []byte("bb")), false},
		{"the longest string", 2, join([]byte{1}, u32(1), u32(0), u32(1024), []byte(longest)), true},
		{"a longer string", 2, join([]byte{1}, u32(1), u32(0), u32(1025), []byte(longest+"z")), false},
		{"a length without end", 2, join([]byte{1}, u32(1), u32(-1), []byte("a"), u32(1), []byte("b")), false},
		{"integers for strings", 2, join([]byte{1}, u32(1), u64(0, 1<<63)), false},
		{"a filter", 1, join([]byte{2}, filter), true}, {"a filter and a byte", 1, join([]byte{2}, filter, []byte{0}), false},
		{"a filter without a flag", 1, join([]byte{0}, filter), false}, {"both", 1, join([]byte{3}, u32(1), u64(1, 2), filter), true},
		{"a filter cut short", 1, join([]byte{2}, filter[:12]), false}, {"no filter", 1, []byte{2}, false}, {"hashes alone", 1, []byte{2, 1}, false},
		{"no words", 1, join([]byte{2, 1}, u32(0)), false}, {"no words, no hashes", 1, join([]byte{2, 0}, u32(0)), false},
		{"no hashes", 1, join([]byte{2, 0}, u32(1), u64(full)), false}, {"nine hashes", 1, join([]byte{2, 9}, u32(1), u64(full)), false},
		{"all words", 1, join([]byte{2, 8}, u32(64), u64(fullBloom(64)...)), true}, {"a word more", 1, join([]byte{2, 8}, u32(65), u64(fullBloom(65)...)), false},
		{"words without end", 1, join([]byte{2, 8}, u32(-1), u64(full)), false}, {"a word too few", 1, join([]byte{2, 8}, u32(2), u64(full)), false},
		{"filter and range turned", 1, join([]byte{3}, filter, u32(1), u64(1, 2)), false},
	} {
		body := ints
		if c.kind == api.KindStr {
			body = strs
		}
		if checkLook(t, c.name, one(c.kind, 3, body, c.record)) != c.valid {
			t.Errorf("%s: valid is not %v", c.name, c.valid)
		}
	}
}

// The same record may be one for a group of two rows and none for a group of three, and the other way round.
func TestARecordIsReadWithTheRowsOfItsGroup(t *testing.T) {
	two := join([]byte{1, 0}, u64(3))
	three := join([]byte{1, 0}, u64(3, 8))
	bare := join([]byte{1}, u32(2))
	bounds := join([]byte{1}, u32(2), u64(8, 8))
	for _, c := range []struct {
		first, second []byte
		valid         bool
	}{{bare, bounds, true}, {bounds, bare, false}, {bare, bare, false}, {bounds, bounds, false}} {
		image := build([]int{1}, rawGroup{2, []rawChunk{{two, c.first}}}, rawGroup{3, []rawChunk{{three, c.second}}})
		if checkLook(t, "two groups", image) != c.valid {
			t.Errorf("% x, % x: valid is not %v", c.first, c.second, c.valid)
		}
	}
	empty := []byte{1, 0}
	for kind := api.KindInt; kind <= api.KindStr; kind++ {
		if !checkLook(t, "no rows", one(kind, 0, empty, join([]byte{1}, u32(0)))) {
			t.Errorf("kind %d: a range of no rows is refused", kind)
		}
		malformed(t, "no rows, with bounds", one(kind, 0, empty, join([]byte{1}, u32(0), u64(0, 0))))
		malformed(t, "no rows, with empty bounds", one(kind, 0, empty, join([]byte{1}, u32(0), u32(0, 0))))
		if _, code := format.Rezone(one(kind, 0, empty, []byte{0}), []api.Zone{{Range: true}}); code != api.ErrNone {
			t.Errorf("kind %d: a range of no rows: code %d", kind, code)
		}
	}
}
