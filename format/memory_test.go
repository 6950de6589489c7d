package format_test

import (
	"bytes"
	"reflect"
	"runtime"
	"slices"
	"testing"

	"colscan/api"
	"colscan/format"
)

// within gives a copy of the list that is cut out of a longer one, and the longer one.
func within[E any](list []E, behind E) (cut, array []E) {
	array = append(slices.Clone(list), slices.Repeat([]E{behind}, 70)...)
	return array[:len(list)], array
}

// lengthen appends to a list, by one entry and by many.
func lengthen[E any](list []E, mark E) {
	_ = append(list, mark)
	_ = append(list, slices.Repeat([]E{mark}, len(list)+100)...)
}

// overwrite appends to a list and writes into all of it.
func overwrite[E any](list []E, mark E) {
	lengthen(list, mark)
	for i := range list {
		list[i] = mark
	}
}

// checkBytes runs a call twice and spoils its first answer: neither the arguments nor the second may change.
func checkBytes(t *testing.T, name string, call func() ([]byte, int), kept func() bool) {
	t.Helper()
	first, code := call()
	if code != api.ErrNone {
		t.Fatalf("%s: code %d", name, code)
	}
	want := slices.Clone(first)
	second, _ := call()
	if !bytes.Equal(second, want) {
		t.Errorf("%s: another answer the second time", name)
	}
	overwrite(first, 0xEE)
	third, _ := call()
	if !kept() || !bytes.Equal(second, want) || !bytes.Equal(third, want) {
		t.Errorf("%s: the arguments or another answer changed", name)
	}
}

func TestChecksumLeavesItsBytes(t *testing.T) {
	b, array := within([]byte("123456789"), 7)
	kept := slices.Clone(array)
	if format.Checksum(b) != format.Checksum(b) || !bytes.Equal(array, kept) {
		t.Error("Checksum")
	}
}

func TestBloomIsNewMemory(t *testing.T) {
	for _, n := range []int{0, 1, 20} {
		cells, array := within(columnOf(2, n, 5), text("behind"))
		kept := slices.Clone(array)
		first := bloomOf(t, 2, cells, 2, 3)
		second := bloomOf(t, 2, cells, 2, 3)
		want := slices.Clone(second)
		overwrite(first, 99)
		if !slices.Equal(array, kept) || !slices.Equal(second, want) || !slices.Equal(bloomOf(t, 2, cells, 2, 3), want) {
			t.Errorf("Bloom of %d cells", n)
		}
		filter, words := within(want, 5)
		keptWords := slices.Clone(words)
		for _, c := range array {
			format.BloomHas(filter, 2, 2, c)
		}
		if !slices.Equal(words, keptWords) {
			t.Errorf("BloomHas writes into the filter of %d cells", n)
		}
	}
}

// sideBySide lays out the rows of a table, and the plans of its groups, in one array each.
func sideBySide(table api.Table, groups []api.GroupPlan) (api.Table, []api.GroupPlan, func() bool) {
	cells := slices.Concat(table.Rows...)
	cells = append(cells, slices.Repeat([]api.Cell{text("behind")}, 20)...)
	rows, rowArray := within(table.Rows, []api.Cell{null})
	columns := len(table.Kinds)
	for i := range rows {
		rows[i] = cells[i*columns : (i+1)*columns]
	}
	kinds, kindArray := within(table.Kinds, 9)
	var plans []api.Plan
	for _, g := range groups {
		plans = append(plans, g.Plans...)
	}
	plans = append(plans, slices.Repeat([]api.Plan{{Codec: 9}}, 20)...)
	cut, groupArray := within(groups, api.GroupPlan{Rows: 9})
	for g := range cut {
		cut[g].Plans = plans[g*columns : (g+1)*columns]
	}
	keptCells, keptRows := slices.Clone(cells), slices.Clone(rowArray)
	keptKinds, keptPlans, keptGroups := slices.Clone(kindArray), slices.Clone(plans), slices.Clone(groupArray)
	kept := func() bool {
		return slices.Equal(cells, keptCells) && reflect.DeepEqual(rowArray, keptRows) && slices.Equal(kindArray, keptKinds) &&
			slices.Equal(plans, keptPlans) && reflect.DeepEqual(groupArray, keptGroups)
	}
	return api.Table{Kinds: kinds, Rows: rows}, cut, kept
}

func TestWriteGivesNewMemory(t *testing.T) {
	for seed := range 40 {
		table := tableOf(1+seed%4, seed%9*10, seed)
		groups := groupsOf(table, 1+seed%3, uint64(seed))
		table, groups, kept := sideBySide(table, groups)
		if _, code := format.Write(table, groups); code != api.ErrNone {
			if !kept() {
				t.Error("a refused Write wrote into its arguments")
			}
			continue
		}
		checkBytes(t, "Write", func() ([]byte, int) { return format.Write(table, groups) }, kept)
	}
	empty, groups, kept := sideBySide(api.Table{Kinds: []int{1}}, nil)
	checkBytes(t, "Write of nothing", func() ([]byte, int) { return format.Write(empty, groups) }, kept)
}

func TestRezoneGivesNewMemory(t *testing.T) {
	for _, b := range append(images(t), build([]int{1})) {
		image, array := within(b, 7)
		im, _ := format.Parse(b)
		words := slices.Repeat([]uint64{full}, 100)
		var list []api.Zone
		for _, g := range im.Groups {
			for _, c := range g.Chunks {
				c.Zone.Hashes, c.Zone.Bloom = 3, words[len(list):][:1+len(list)%3]
				list = append(list, c.Zone)
			}
		}
		zones, zoneArray := within(list, api.Zone{Nulls: 9})
		keptBytes, keptZones := slices.Clone(array), slices.Clone(zoneArray)
		checkBytes(t, "Rezone", func() ([]byte, int) { return format.Rezone(image, zones) }, func() bool {
			return bytes.Equal(array, keptBytes) && reflect.DeepEqual(zoneArray, keptZones) && slices.Min(words) == full
		})
	}
}

// checkLists runs a call on an image and asks of each list of its answer that it stands alone. lists gives for
// each list of an answer what lengthens it, what writes into it, and what takes it out of the answer.
func checkLists[A any](t *testing.T, name string, b []byte, call func(b []byte) (A, int), lists func(a *A) []ownList) {
	t.Helper()
	image, array := within(b, 7)
	kept := slices.Clone(array)
	answer := func() A {
		a, code := call(image)
		if code != api.ErrNone {
			t.Fatalf("%s: code %d", name, code)
		}
		return a
	}
	want := answer()
	for i := range lists(&want) {
		a := answer()
		lists(&a)[i].lengthen()
		if !reflect.DeepEqual(a, want) {
			t.Errorf("%s: list %d has room in another list", name, i)
		}
		lists(&a)[i].overwrite()
		other := answer()
		lists(&a)[i].drop()
		lists(&other)[i].drop()
		if !reflect.DeepEqual(a, other) {
			t.Errorf("%s: list %d shares memory with another", name, i)
		}
	}
	if !bytes.Equal(array, kept) || !reflect.DeepEqual(answer(), want) {
		t.Errorf("%s: the image or what lies behind it changed", name)
	}
	// The image's bytes may be used for something else afterwards.
	overwrite(array, 0xEE)
	copy(array, kept)
	again := answer()
	overwrite(array, 0xEE)
	if !reflect.DeepEqual(again, want) {
		t.Errorf("%s: the answer follows the image", name)
	}
}

// ownList is a list that stands in an answer.
type ownList struct {
	lengthen, overwrite, drop func()
}

func listAt[E any](place *[]E, mark E) ownList {
	return ownList{
		func() { lengthen(*place, mark) },
		func() { overwrite(*place, mark) },
		func() { *place = nil },
	}
}

func imageLists(im *api.Image) []ownList {
	lists := []ownList{listAt(&im.Kinds, 9), listAt(&im.Groups, api.Group{Rows: 9})}
	for g := range im.Groups {
		lists = append(lists, listAt(&im.Groups[g].Chunks, api.Chunk{Codec: 9}))
		for col := range im.Groups[g].Chunks {
			lists = append(lists, listAt(&im.Groups[g].Chunks[col].Zone.Bloom, 9))
		}
	}
	return lists
}

func tableLists(table *api.Table) []ownList {
	lists := []ownList{listAt(&table.Kinds, 9), listAt(&table.Rows, []api.Cell{null})}
	for i := range table.Rows {
		lists = append(lists, listAt(&table.Rows[i], text("spoilt")))
	}
	return lists
}

func TestParseAndReadGiveNewMemory(t *testing.T) {
	table := tableOf(3, 20, 4)
	plans := slices.Repeat([]api.Plan{{Codec: api.CodecRuns, Range: true, Bloom: 5, Hashes: 2}}, 3)
	filtered, code := format.Write(table, []api.GroupPlan{{Rows: 12, Plans: plans}, {Rows: 8, Plans: plans}})
	if code != api.ErrNone {
		t.Fatalf("code %d", code)
	}
	for _, b := range append(images(t), filtered) {
		checkLists(t, "Parse", b, format.Parse, imageLists)
		checkLists(t, "Read", b, format.Read, tableLists)
	}
}

// Equal filters, beside each other in an image, are lists of their own.
func TestEqualZonesShareNothing(t *testing.T) {
	im, code := format.Parse(build([]int{1, 1}, rawGroup{0, []rawChunk{
		{[]byte{1, 0}, join([]byte{2, 1}, u32(2), u64(5, 6))}, {[]byte{1, 0}, join([]byte{2, 1}, u32(2), u64(5, 6))},
	}}))
	if code != api.ErrNone {
		t.Fatalf("code %d", code)
	}
	overwrite(im.Groups[0].Chunks[0].Zone.Bloom, 9)
	if !slices.Equal(im.Groups[0].Chunks[1].Zone.Bloom, []uint64{5, 6}) {
		t.Error("two filters share memory")
	}
}

func TestRefusedCallsLeaveTheirArguments(t *testing.T) {
	for _, b := range images(t) {
		image, array := within(b, 7)
		array[len(b)-1] ^= 255
		kept := slices.Clone(array)
		zones, zoneArray := within(make([]api.Zone, 3), api.Zone{Nulls: 9})
		for n := range len(image) + 20 {
			format.Parse(array[:n])
			format.Read(array[:n])
			format.Rezone(array[:n], zones)
		}
		if !bytes.Equal(array, kept) || !reflect.DeepEqual(zoneArray[:3], make([]api.Zone, 3)) || zoneArray[3].Nulls != 9 {
			t.Error("a refused call wrote into its arguments")
		}
	}
}

// allocated is how many bytes a call takes from the heap.
func allocated(call func()) uint64 {
	var before, after runtime.MemStats
	runtime.ReadMemStats(&before)
	call()
	runtime.ReadMemStats(&after)
	return after.TotalAlloc - before.TotalAlloc
}

func TestNoListIsBuiltOnTheWordOfACount(t *testing.T) {
	body := join([]byte{1, 0}, u64(0, 7))
	good := one(1, 1, body, []byte{0})
	for name, b := range map[string][]byte{
		"all groups":       join([]byte("CSI1"), u32(16, 256, 65536), slices.Repeat([]byte{1}, 16)),
		"groups":           join([]byte("CSI1"), u32(1, -1, 0), []byte{1}),
		"columns":          join([]byte("CSI1"), u32(-1, 0, 0), []byte{1}),
		"rows":             withNumber(withNumber(good, 12, -1), 17, -1),
		"all rows":         withNumber(withNumber(good, 12, api.MaxRows), 17, api.MaxRows),
		"a length":         withNumber(good, 25, -1),
		"a record":         withNumber(good, 33, -1),
		"words":            one(1, 1, body, join([]byte{2, 1}, u32(-1), u64(full))),
		"a string":         one(2, 1, join([]byte{1, 0}, u64(0), u32(0)), join([]byte{1}, u32(0), u32(-1), u32(-1))),
		"runs":             one(1, 1, join([]byte{3, 0}, u64(0), u32(-1)), []byte{0}),
		"rows of no bytes": one(1, api.MaxRows, []byte{1, 0}, []byte{0}),
	} {
		if len(b) > 200 {
			t.Fatalf("%s: %d bytes", name, len(b))
		}
		got := allocated(func() {
			format.Parse(b)
			format.Read(b)
			format.Rezone(b, nil)
		})
		if got > 1<<15 {
			t.Errorf("%s: %d bytes are taken for an image of %d", name, got, len(b))
		}
	}
}

// A chunk of few bytes may stand for many long strings: they must not be copied one by one.
func TestMemoryStaysWithinTheImageAndTheRows(t *testing.T) {
	body := join([]byte{2, 0}, make([]byte, api.MaxRows/8), u32(1), u32(api.MaxStr), []byte(longest))
	z := api.Zone{Range: true, Min: text(longest), Max: text(longest), Hashes: 8, Bloom: fullBloom(64)}
	image := one(2, api.MaxRows, body, modelRecord(2, api.MaxRows, z))
	for name, call := range map[string]func(){
		"Parse": func() { format.Parse(image) }, "Read": func() { format.Read(image) }, "Rezone": func() { format.Rezone(image, []api.Zone{z}) },
	} {
		if got := allocated(call); got > 150*api.MaxRows {
			t.Errorf("%s takes %d bytes", name, got)
		}
	}
}
