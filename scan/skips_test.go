package scan_test

import (
	"slices"
	"testing"

	"colscan/api"
	"colscan/format"
	"colscan/scan"
)

var byRange, byBloom, byBoth = api.Switches{Range: true}, api.Switches{Bloom: true}, api.Switches{Range: true, Bloom: true}

// rezone gives an image other zones.
func rezone(t *testing.T, b []byte, zones ...api.Zone) []byte {
	t.Helper()
	out, code := format.Rezone(b, zones)
	if code != api.ErrNone {
		t.Fatalf("Rezone with %+v: code %d", zones, code)
	}
	return out
}

// oneGroup is an image of a table in one group, with these zones.
func oneGroup(t *testing.T, table api.Table, zones ...api.Zone) []byte {
	t.Helper()
	plans := slices.Repeat([]api.Plan{{Codec: api.CodecPlain}}, len(table.Kinds))
	return rezone(t, write(t, table, []api.GroupPlan{{Rows: len(table.Rows), Plans: plans}}), zones...)
}

func between(nulls int, low, high api.Cell) api.Zone {
	return api.Zone{Range: true, Nulls: nulls, Min: low, Max: high}
}

// filterOf is a zone with a filter of so many words that holds these values.
func filterOf(t *testing.T, kind, words int, vals ...api.Cell) api.Zone {
	t.Helper()
	filter, ok := format.Bloom(kind, vals, 3, words)
	if !ok {
		t.Fatalf("no filter of %v", vals)
	}
	return api.Zone{Hashes: 3, Bloom: filter}
}

// checkSkip asks an image of one group whether it is skipped.
func checkSkip(t *testing.T, name string, b []byte, where []api.Node, sw api.Switches, want bool) {
	t.Helper()
	got, code := scan.Skips(b, api.Query{Where: where, Cols: []int{0}}, sw)
	if code != api.ErrNone || !slices.Equal(got, []bool{want}) {
		t.Errorf("%s, %+v, %+v: %v, code %d, want %v", name, sw, where, got, code, want)
	}
	if im, _ := format.Parse(b); modelSkips(im, where, sw)[0] != want {
		t.Errorf("%s, %+v, %+v: the model does not give %v", name, sw, where, want)
	}
}

// The zone is 10..20; its chunk holds 12 and 15, or these and a NULL.
func TestSkipsByTheTableOfRanges(t *testing.T) {
	for _, c := range []struct {
		op            int
		literals      []int64
		never, always bool
	}{
		{api.OpEq, []int64{9}, true, false}, {api.OpEq, []int64{10}, false, false}, {api.OpEq, []int64{15}, false, false}, {api.OpEq, []int64{20}, false, false}, {api.OpEq, []int64{21}, true, false},
		{api.OpNe, []int64{9}, false, true}, {api.OpNe, []int64{10}, false, false}, {api.OpNe, []int64{20}, false, false}, {api.OpNe, []int64{21}, false, true},
		{api.OpLt, []int64{9}, true, false}, {api.OpLt, []int64{10}, true, false}, {api.OpLt, []int64{11}, false, false}, {api.OpLt, []int64{20}, false, false}, {api.OpLt, []int64{21}, false, true},
		{api.OpLe, []int64{9}, true, false}, {api.OpLe, []int64{10}, false, false}, {api.OpLe, []int64{19}, false, false}, {api.OpLe, []int64{20}, false, true}, {api.OpLe, []int64{21}, false, true},
		{api.OpGt, []int64{9}, false, true}, {api.OpGt, []int64{10}, false, false}, {api.OpGt, []int64{19}, false, false}, {api.OpGt, []int64{20}, true, false}, {api.OpGt, []int64{21}, true, false},
		{api.OpGe, []int64{9}, false, true}, {api.OpGe, []int64{10}, false, true}, {api.OpGe, []int64{11}, false, false}, {api.OpGe, []int64{20}, false, false}, {api.OpGe, []int64{21}, true, false},
		{api.OpIn, nil, true, false}, {api.OpIn, []int64{9, 21, 22, -5}, true, false}, {api.OpIn, []int64{9, 10, 21}, false, false}, {api.OpIn, []int64{21, 20}, false, false}, {api.OpIn, []int64{12, 15}, false, false},
		{api.OpBetween, []int64{5, 9}, true, false}, {api.OpBetween, []int64{5, 10}, false, false}, {api.OpBetween, []int64{20, 25}, false, false}, {api.OpBetween, []int64{21, 25}, true, false},
		{api.OpBetween, []int64{16, 14}, true, false}, {api.OpBetween, []int64{14, 14}, false, false}, {api.OpBetween, []int64{10, 20}, false, true}, {api.OpBetween, []int64{9, 21}, false, true},
		{api.OpBetween, []int64{11, 20}, false, false}, {api.OpBetween, []int64{10, 19}, false, false}, {api.OpBetween, []int64{least, greatest}, false, true}, {api.OpBetween, []int64{25, 5}, true, false},
	} {
		leaf := leafOf(c.op, 0, integers(c.literals...)...)
		full := oneGroup(t, column(1, integers(12, 15)...), between(0, integer(10), integer(20)))
		some := oneGroup(t, column(1, integer(12), null, integer(15)), between(1, integer(10), integer(20)))
		for _, b := range [][]byte{full, some} {
			checkSkip(t, "range", b, nodes(leaf), byRange, c.never)
			checkSkip(t, "range", b, nodes(leaf, not), byRange, c.always)
			checkSkip(t, "range", b, nodes(leaf, not, not), byBoth, c.never)
			checkSkip(t, "range", b, nodes(leaf), byBloom, false)
			checkSkip(t, "range", b, nodes(leaf, not), api.Switches{}, false)
		}
		bare := oneGroup(t, column(1, integers(12, 15)...), api.Zone{})
		for _, sw := range allSwitches {
			checkSkip(t, "no zone", bare, nodes(leaf), sw, false)
			checkSkip(t, "no zone", bare, nodes(leaf, not), sw, false)
		}
	}
}

func TestSkipsByARangeOfOneValue(t *testing.T) {
	for kind, vals := range map[int][]api.Cell{api.KindInt: integers(4, 5, 6), api.KindStr: texts("a", "a\x00", "a\x00\x00")} {
		b := oneGroup(t, column(kind, vals[1], vals[1]), between(0, vals[1], vals[1]))
		for _, c := range []struct {
			op            int
			args          []api.Cell
			never, always bool
		}{
			{api.OpEq, vals[1:2], false, true}, {api.OpEq, vals[:1], true, false}, {api.OpNe, vals[1:2], true, false}, {api.OpNe, vals[2:], false, true},
			{api.OpIn, vals, false, true}, {api.OpIn, vals[2:], true, false}, {api.OpIn, []api.Cell{vals[0], vals[2]}, true, false},
			{api.OpBetween, []api.Cell{vals[1], vals[1]}, false, true}, {api.OpBetween, []api.Cell{vals[2], vals[0]}, true, false},
			{api.OpLt, vals[1:2], true, false}, {api.OpLe, vals[1:2], false, true}, {api.OpGt, vals[1:2], true, false}, {api.OpGe, vals[1:2], false, true},
		} {
			checkSkip(t, "one value", b, nodes(leafOf(c.op, 0, c.args...)), byRange, c.never)
			checkSkip(t, "one value", b, nodes(leafOf(c.op, 0, c.args...), not), byRange, c.always)
		}
	}
}

func TestSkipsByNulls(t *testing.T) {
	isNull, less := leafOf(api.OpIsNull, 0), leafOf(api.OpLt, 0, integer(15))
	for _, c := range []struct {
		name                       string
		cells                      []api.Cell
		zone                       api.Zone
		null, notNull, less, notIt bool
	}{
		{"no NULL", integers(12, 18), between(0, integer(12), integer(18)), true, false, false, false},
		{"a NULL", []api.Cell{null, integer(12), integer(18)}, between(1, integer(12), integer(18)), false, false, false, false},
		{"nothing but NULLs", []api.Cell{null, null}, api.Zone{Range: true, Nulls: 2}, false, true, true, true},
		{"no rows", nil, api.Zone{Range: true}, true, true, true, true},
		{"no range, no NULL", integers(12, 18), api.Zone{}, false, false, false, false},
		{"no range, nothing but NULLs", []api.Cell{null, null}, api.Zone{}, false, false, false, false},
		{"no range, no rows", nil, api.Zone{}, false, false, false, false},
	} {
		b := oneGroup(t, column(1, c.cells...), c.zone)
		for _, sw := range []api.Switches{byRange, byBoth} {
			checkSkip(t, c.name, b, nodes(isNull), sw, c.null)
			checkSkip(t, c.name, b, nodes(isNull, not), sw, c.notNull)
			checkSkip(t, c.name, b, nodes(less), sw, c.less)
			checkSkip(t, c.name, b, nodes(less, not), sw, c.notIt)
		}
		for _, sw := range []api.Switches{{}, byBloom} {
			checkSkip(t, c.name, b, nodes(isNull), sw, false)
			checkSkip(t, c.name, b, nodes(isNull, not), sw, false)
			checkSkip(t, c.name, b, nodes(less), sw, false)
			checkSkip(t, c.name, b, nil, sw, false)
		}
		checkSkip(t, c.name, b, nil, byBoth, false)
	}
}

// Of two columns without rows the first has a range: nothing is possible for its leaves, and so for no node above.
func TestNothingPossibleLeavesNothing(t *testing.T) {
	table := api.Table{Kinds: []int{1, 2}}
	b := oneGroup(t, table, api.Zone{Range: true}, api.Zone{})
	none := []api.Node{leafOf(api.OpEq, 0, integer(1)), leafOf(api.OpNe, 0, integer(1)), leafOf(api.OpIsNull, 0), leafOf(api.OpIn, 0)}
	other := []api.Node{leafOf(api.OpEq, 1, text("a")), leafOf(api.OpIsNull, 1)}
	for _, x := range none {
		for _, y := range other {
			for _, join := range nodes(and, or) {
				for _, where := range [][]api.Node{{x, y, join}, {y, x, join}, {y, x, not, join}, {x, y, join, not}, {y, y, or, x, join}, {y, x, join, y, or}, {y, x, join, not, not, y, or}} {
					checkSkip(t, "nothing possible", b, where, byRange, true)
					checkSkip(t, "nothing possible", b, where, byBloom, false)
				}
			}
			checkSkip(t, "something possible", b, nodes(y), byRange, false)
			checkSkip(t, "something possible", b, nodes(y, y, and), byRange, false)
		}
	}
	// Where all rows are NULL, UNKNOWN is possible, and the other side may be TRUE.
	table.Rows = [][]api.Cell{{null, text("a")}}
	b = oneGroup(t, table, api.Zone{Range: true, Nulls: 1}, api.Zone{})
	unknown := leafOf(api.OpEq, 0, integer(1))
	checkSkip(t, "UNKNOWN or", b, nodes(unknown, other[0], or), byRange, false)
	checkSkip(t, "UNKNOWN and", b, nodes(unknown, other[0], and), byRange, true)
	checkSkip(t, "not of UNKNOWN and", b, nodes(unknown, other[0], and, not), byRange, false)
	checkSkip(t, "not of UNKNOWN or", b, nodes(unknown, other[0], or, not), byRange, true)
}

func TestSkipsByFilters(t *testing.T) {
	for kind, vals := range map[int][]api.Cell{api.KindInt: integers(12, 15, 77), api.KindStr: texts("p", "", "q")} {
		absent := vals[2]
		zone := filterOf(t, kind, 16, vals[:2]...)
		if format.BloomHas(zone.Bloom, zone.Hashes, kind, absent) {
			t.Fatalf("%v is in the filter", absent)
		}
		b := oneGroup(t, column(kind, vals[0], null, vals[1]), zone)
		for _, c := range []struct {
			op            int
			args          []api.Cell
			never, always bool
		}{
			{api.OpEq, vals[:1], false, false}, {api.OpEq, vals[2:], true, false}, {api.OpNe, vals[:1], false, false}, {api.OpNe, vals[2:], false, true},
			{api.OpIn, nil, true, false}, {api.OpIn, vals[2:], true, false}, {api.OpIn, []api.Cell{absent, absent}, true, false}, {api.OpIn, vals, false, false},
			{api.OpIn, []api.Cell{absent, vals[0]}, false, false}, {api.OpLt, vals[2:], false, false}, {api.OpLe, vals[2:], false, false}, {api.OpGt, vals[2:], false, false},
			{api.OpGe, vals[2:], false, false}, {api.OpBetween, []api.Cell{absent, absent}, false, false}, {api.OpIsNull, nil, false, false},
		} {
			leaf := leafOf(c.op, 0, c.args...)
			for _, sw := range []api.Switches{byBloom, byBoth} {
				checkSkip(t, "filter", b, nodes(leaf), sw, c.never)
				checkSkip(t, "filter", b, nodes(leaf, not), sw, c.always)
			}
			for _, sw := range []api.Switches{{}, byRange} {
				checkSkip(t, "filter", b, nodes(leaf), sw, false)
				checkSkip(t, "filter", b, nodes(leaf, not), sw, false)
			}
		}
	}
}

// A filter without bits says nothing of NULLs, and a full one nothing at all.
func TestSkipsByEmptyAndFullFilters(t *testing.T) {
	empty := api.Zone{Hashes: 1, Bloom: []uint64{0}}
	all := api.Zone{Hashes: 8, Bloom: slices.Repeat([]uint64{full}, api.MaxBloom)}
	eq, ne, in := leafOf(api.OpEq, 0, integer(1)), leafOf(api.OpNe, 0, integer(1)), leafOf(api.OpIn, 0, integers(1, 2)...)
	for _, cells := range [][]api.Cell{nil, {null, null}} {
		b := oneGroup(t, column(1, cells...), empty)
		for where, want := range map[*api.Node][2]bool{&eq: {true, false}, &ne: {false, true}, &in: {true, false}} {
			checkSkip(t, "no bit", b, nodes(*where), byBloom, want[0])
			checkSkip(t, "no bit", b, nodes(*where, not), byBloom, want[1])
		}
		checkSkip(t, "no bit", b, nodes(leafOf(api.OpIsNull, 0)), byBloom, false)
		checkSkip(t, "no bit", b, nodes(leafOf(api.OpIsNull, 0), not), byBloom, false)
		b = oneGroup(t, column(1, cells...), all)
		for _, where := range nodes(eq, ne, in) {
			checkSkip(t, "all bits", b, nodes(where), byBloom, false)
			checkSkip(t, "all bits", b, nodes(where, not), byBloom, false)
		}
		checkSkip(t, "all bits, no literal", b, nodes(leafOf(api.OpIn, 0)), byBloom, true)
	}
}

// What could be known in another way than the rule's is not known.
func TestTheRuleIsTheWholeRule(t *testing.T) {
	zone := filterOf(t, 1, 16, integers(1, 2)...)
	zone.Range, zone.Min, zone.Max = true, integer(1), integer(2)
	out, absent := integer(-1), integer(0)
	// A literal below the range that the filter seems to hold.
	for format.BloomHas(zone.Bloom, zone.Hashes, 1, out) == false {
		out.Int--
	}
	wide := zone
	wide.Min, wide.Max = integer(-1000000), integer(1000000)
	for format.BloomHas(zone.Bloom, zone.Hashes, 1, absent) {
		absent.Int++
	}
	table := column(1, integers(1, 2, 1)...)
	tight, loose := oneGroup(t, table, zone), oneGroup(t, table, wide)
	for _, c := range []struct {
		name  string
		b     []byte
		where []api.Node
	}{
		{"no number is below 2 and above 1", tight, nodes(leafOf(api.OpLt, 0, integer(2)), leafOf(api.OpGt, 0, integer(1)), and)},
		{"no number is two numbers", tight, nodes(leafOf(api.OpEq, 0, integer(1)), leafOf(api.OpEq, 0, integer(2)), and)},
		{"all numbers of the range are literals", tight, nodes(leafOf(api.OpIn, 0, integers(1, 2)...), not)},
		{"each number is one of both", tight, nodes(leafOf(api.OpEq, 0, integer(1)), leafOf(api.OpEq, 0, integer(2)), or, not)},
		{"no number is equal and unequal", tight, nodes(leafOf(api.OpEq, 0, integer(1)), leafOf(api.OpNe, 0, integer(1)), and)},
		{"no row is NULL and a value", loose, nodes(leafOf(api.OpEq, 0, integer(1)), leafOf(api.OpEq, 0, integer(1)), not, and)},
		{"the range is not in the filter", loose, nodes(leafOf(api.OpBetween, 0, absent, absent))},
		{"from no literal on", loose, nodes(leafOf(api.OpGe, 0, absent), leafOf(api.OpLe, 0, absent), and)},
		{"unequal to two", loose, nodes(leafOf(api.OpIn, 0, absent), not)},
		{"none is in the filter but not", loose, nodes(leafOf(api.OpEq, 0, absent), not)},
	} {
		checkSkip(t, c.name, c.b, c.where, byBoth, false)
	}
	// Each literal is excluded, but one by the range alone and one by the filter alone.
	near := oneGroup(t, table, between(0, integer(absent.Int), integer(1000000)))
	mixed := zone
	mixed.Min, mixed.Max = absent, integer(1000000)
	both := nodes(leafOf(api.OpIn, 0, out, absent))
	checkSkip(t, "by range and filter together", oneGroup(t, table, mixed), both, byBoth, false)
	checkSkip(t, "by range alone", near, nodes(leafOf(api.OpIn, 0, out)), byBoth, true)
	checkSkip(t, "by filter alone", oneGroup(t, table, mixed), nodes(leafOf(api.OpIn, 0, absent)), byBoth, true)
	checkSkip(t, "joined they are", oneGroup(t, table, mixed), nodes(leafOf(api.OpEq, 0, out), leafOf(api.OpEq, 0, absent), or), byBoth, true)
}

// Every pair of leaves whose possible values are T, F, U, TF, TU, FU and TFU, under AND, OR and NOT.
func TestSkipsJoinWhatIsPossible(t *testing.T) {
	table := api.Table{Kinds: []int{1, 1, 1, 1}, Rows: [][]api.Cell{{integer(1), null, null, integer(1)}, {integer(1), null, integer(1), integer(2)}}}
	b := oneGroup(t, table, between(0, integer(1), integer(1)), api.Zone{Range: true, Nulls: 2}, between(1, integer(1), integer(1)), api.Zone{})
	leaves := map[string]api.Node{
		"T": leafOf(api.OpEq, 0, integer(1)), "F": leafOf(api.OpEq, 0, integer(2)), "U": leafOf(api.OpEq, 1, integer(1)), "TU": leafOf(api.OpEq, 2, integer(1)),
		"FU": leafOf(api.OpEq, 2, integer(2)), "TF": leafOf(api.OpIsNull, 3), "TFU": leafOf(api.OpEq, 3, integer(1)),
	}
	im := parse(t, b)
	for x, first := range leaves {
		zone := im.Groups[0].Chunks[first.Col].Zone
		if got := modelPossible(1, 2, zone, byRange, first); got != x {
			t.Fatalf("of %s the model makes %s", x, got)
		}
		checkSkip(t, x, b, nodes(first), byRange, x[0] != 'T')
		for y, second := range leaves {
			for _, where := range [][]api.Node{{first, second, and}, {first, second, or}, {first, not, second, and}, {first, second, or, not}, {first, second, and, not}, {first, second, not, or}} {
				checkSkip(t, x+" "+y, b, where, byRange, modelSkips(im, where, byRange)[0])
			}
		}
	}
}

func TestSkipsRefusesInOrder(t *testing.T) {
	b := write(t, column(1, integers(1, 2)...), evenly(column(1, integers(1, 2)...), 1, api.Plan{Codec: 1, Range: true}))
	good, wrong := api.Query{Cols: []int{0}}, api.Query{Cols: []int{1}}
	for _, sw := range allSwitches {
		for _, c := range []struct {
			b    []byte
			q    api.Query
			want int
		}{
			{b, good, api.ErrNone}, {b, wrong, api.ErrQuery}, {b, api.Query{}, api.ErrQuery}, {b[1:], good, api.ErrMalformed}, {b[:len(b)-1], wrong, api.ErrMalformed},
			{nil, good, api.ErrMalformed}, {nil, api.Query{}, api.ErrMalformed}, {append(slices.Clone(b), 0), good, api.ErrMalformed},
			{b, api.Query{Cols: []int{0}, Where: nodes(leafOf(api.OpEq, 0, text("a")))}, api.ErrQuery}, {b, api.Query{Cols: []int{0}, Where: nodes(not)}, api.ErrQuery},
		} {
			got, code := scan.Skips(c.b, c.q, sw)
			if code != c.want || code != api.ErrNone && len(got) != 0 || code == api.ErrNone && len(got) != 2 {
				t.Errorf("%+v: %v, code %d, want %d", c.q, got, code, c.want)
			}
		}
	}
	empty := write(t, api.Table{Kinds: []int{2}}, nil)
	if got, code := scan.Skips(empty, good, byBoth); code != api.ErrNone || len(got) != 0 {
		t.Errorf("no groups: %v, code %d", got, code)
	}
}

// Each group is asked by its own zones, and what is asked for makes no difference.
func TestSkipsTellsOfEachGroup(t *testing.T) {
	var cells []api.Cell
	for g := range api.MaxGroups {
		cells = append(cells, integer(int64(g)))
	}
	table := column(1, cells...)
	b := write(t, table, evenly(table, 1, api.Plan{Codec: api.CodecRuns, Range: true, Bloom: 8, Hashes: 8}))
	for _, at := range []int64{0, 1, 100, 254, 255} {
		for _, q := range []api.Query{{Cols: []int{0, 0}}, {Aggs: []api.Agg{{Fn: api.AggRows}, {Fn: api.AggSum}}}} {
			q.Where = nodes(leafOf(api.OpGe, 0, integer(at)))
			got, code := scan.Skips(b, q, byRange)
			for g, skipped := range got {
				if code != api.ErrNone || len(got) != api.MaxGroups || skipped != (int64(g) < at) {
					t.Errorf("from %d on, group %d: %v, code %d", at, g, skipped, code)
				}
			}
			q.Where = nodes(leafOf(api.OpEq, 0, integer(at)))
			if got, code := scan.Skips(b, q, byBloom); code != api.ErrNone || got[at] || !slices.Equal(got, modelSkips(parse(t, b), q.Where, byBloom)) {
				t.Errorf("equal to %d: %v, code %d", at, got, code)
			}
		}
	}
}
