package format_test

import (
	"bytes"
	"math"
	"slices"
	"strings"
	"testing"

	"colscan/api"
	"colscan/format"
)

// checkWrite holds Write, Parse and Read against the model.
func checkWrite(t *testing.T, table api.Table, groups []api.GroupPlan) []byte {
	t.Helper()
	want, wantCode := modelWrite(table, groups)
	image, code := format.Write(table, groups)
	if code != wantCode || !bytes.Equal(image, want) {
		t.Fatalf("Write of %d rows in %d groups %v: code %d, want %d; the images differ", len(table.Rows), len(groups), groups, code, wantCode)
	}
	if code == api.ErrNone {
		checkRead(t, image, table)
	}
	return image
}

func checkRead(t *testing.T, image []byte, table api.Table) {
	t.Helper()
	if got, code := format.Read(image); code != api.ErrNone || !sameTable(got, table) {
		t.Fatalf("Read of %d bytes: code %d, %d rows, want %d", len(image), code, len(got.Rows), len(table.Rows))
	}
	want, _, ok := modelLook(image)
	if got, code := format.Parse(image); !ok || code != api.ErrNone || !sameImage(got, want) {
		t.Fatalf("Parse of %d bytes: code %d, %+v, want %v %+v", len(image), code, got, ok, want)
	}
}

func TestWriteOfTheDocumentsExample(t *testing.T) {
	image := checkWrite(t, api.Table{Kinds: []int{api.KindStr}}, nil)
	if !bytes.Equal(image, []byte("CSI1\x01\x00\x00\x00\x00\x00\x00\x00\x00\x00\x00\x00\x02")) {
		t.Errorf("% x", image)
	}
}

func TestWriteGivesTheImageThatIsFixed(t *testing.T) {
	codes := [api.ErrInput + 1]int{}
	seed := 0
	for _, rows := range []int{0, 1, 2, 9, 63, 64, 65, 200} {
		for _, columns := range []int{1, 2, 3, 7} {
			for _, count := range []int{1, 2, 5} {
				for range 4 {
					seed++
					table := tableOf(columns, rows, seed)
					groups := groupsOf(table, count, uint64(seed))
					if image := checkWrite(t, table, groups); len(image) > 0 {
						codes[api.ErrNone]++
					} else {
						codes[api.ErrCodecUnfit]++
					}
				}
			}
		}
	}
	if codes[api.ErrNone] < 100 || codes[api.ErrCodecUnfit] < 100 {
		t.Errorf("too few of one outcome are tried: %v", codes)
	}
}

func TestEveryPlanThatFitsGivesTheTableBack(t *testing.T) {
	for kind := api.KindInt; kind <= api.KindStr; kind++ {
		for style := range 12 {
			for _, n := range []int{0, 1, 70} {
				table := api.Table{Kinds: []int{kind}}
				for _, c := range columnOf(kind, n, style) {
					table.Rows = append(table.Rows, []api.Cell{c})
				}
				for _, p := range plansOf(kind) {
					image := checkWrite(t, table, []api.GroupPlan{{Rows: n, Plans: []api.Plan{p}}})
					if len(image) == 0 && (p.Codec == api.CodecPlain || p.Codec == api.CodecRuns) {
						t.Errorf("codec %d is unfit", p.Codec)
					}
				}
			}
		}
	}
}

// sample gives a table of three rows, and groups that are in order for it; the second has no rows.
func sample() (api.Table, []api.GroupPlan) {
	table := api.Table{
		Kinds: []int{api.KindInt, api.KindStr},
		Rows:  [][]api.Cell{{integer(5), text("b")}, {null, text("")}, {integer(-7), null}},
	}
	return table, []api.GroupPlan{
		{Rows: 2, Plans: []api.Plan{{Codec: api.CodecFrame, Width: 3, Range: true}, {Codec: api.CodecDict, Bloom: 2, Hashes: 3}}},
		{Rows: 0, Plans: []api.Plan{{Codec: api.CodecPacked, Width: 64, Range: true, Bloom: 1, Hashes: 1}, {Codec: api.CodecPlain, Range: true}}},
		{Rows: 1, Plans: []api.Plan{{Codec: api.CodecRuns}, {Codec: api.CodecRuns, Range: true}}},
	}
}

func refusesWrite(t *testing.T, name string, change func(table *api.Table, groups *[]api.GroupPlan)) {
	t.Helper()
	for _, chosen := range []func() (api.Table, []api.GroupPlan){sample, unfitSample} {
		table, groups := chosen()
		change(&table, &groups)
		if image, code := format.Write(table, groups); code != api.ErrInput || len(image) != 0 {
			t.Errorf("%s: %d bytes, code %d", name, len(image), code)
		}
	}
}

// unfitSample has a first chunk whose values do not fit: what is not in order comes before that.
func unfitSample() (api.Table, []api.GroupPlan) {
	table, groups := sample()
	groups[0].Plans[0] = api.Plan{Codec: api.CodecPacked, Width: 2}
	return table, groups
}

func TestWriteTakesTheSamplesForInOrder(t *testing.T) {
	table, groups := sample()
	checkWrite(t, table, groups)
	table, groups = unfitSample()
	if image, code := format.Write(table, groups); code != api.ErrCodecUnfit || len(image) != 0 {
		t.Errorf("%d bytes, code %d", len(image), code)
	}
}

func TestWriteRefusesTables(t *testing.T) {
	for _, kind := range append([]int{0, 3, 257, 258}, offLimits...) {
		refusesWrite(t, "a kind", func(table *api.Table, _ *[]api.GroupPlan) { table.Kinds[0] = kind })
		refusesWrite(t, "a kind without rows", func(table *api.Table, groups *[]api.GroupPlan) {
			*table, *groups = api.Table{Kinds: []int{kind}}, nil
		})
	}
	for name, change := range map[string]func(table *api.Table){
		"no kinds":           func(table *api.Table) { table.Kinds = nil },
		"a kind too few":     func(table *api.Table) { table.Kinds = table.Kinds[:1] },
		"a kind too many":    func(table *api.Table) { table.Kinds = append(table.Kinds, 1) },
		"a short row":        func(table *api.Table) { table.Rows[2] = table.Rows[2][:1] },
		"an empty row":       func(table *api.Table) { table.Rows[0] = nil },
		"a long row":         func(table *api.Table) { table.Rows[1] = append(table.Rows[1], null) },
		"another kind":       func(table *api.Table) { table.Rows[2][0] = text("a") },
		"a string and more":  func(table *api.Table) { table.Rows[2][1] = api.Cell{Int: 1, Str: "a"} },
		"a NULL and more":    func(table *api.Table) { table.Rows[1][0].Int = 3 },
		"a string too long":  func(table *api.Table) { table.Rows[0][1].Str = strings.Repeat("s", api.MaxStr+1) },
		"an integer as text": func(table *api.Table) { table.Rows[0][1] = integer(4) },
	} {
		refusesWrite(t, name, func(table *api.Table, _ *[]api.GroupPlan) { change(table) })
	}
	refusesWrite(t, "no kinds, no rows, no groups", func(table *api.Table, groups *[]api.GroupPlan) { *table, *groups = api.Table{}, nil })
}

func TestWriteRefusesGroups(t *testing.T) {
	for name, change := range map[string]func(groups []api.GroupPlan) []api.GroupPlan{
		"no groups":           func(groups []api.GroupPlan) []api.GroupPlan { return nil },
		"a row too few":       func(groups []api.GroupPlan) []api.GroupPlan { return groups[:2] },
		"a row too many":      func(groups []api.GroupPlan) []api.GroupPlan { groups[1].Rows++; return groups },
		"no plans":            func(groups []api.GroupPlan) []api.GroupPlan { groups[2].Plans = nil; return groups },
		"no plans, no rows":   func(groups []api.GroupPlan) []api.GroupPlan { groups[1].Plans = nil; return groups },
		"a plan too few":      func(groups []api.GroupPlan) []api.GroupPlan { groups[0].Plans = groups[0].Plans[:1]; return groups },
		"a plan too many":     func(groups []api.GroupPlan) []api.GroupPlan { groups[1].Plans = make([]api.Plan, 3); return groups },
		"an empty plan":       func(groups []api.GroupPlan) []api.GroupPlan { groups[1].Plans[0] = api.Plan{}; return groups },
		"frames for strings":  func(groups []api.GroupPlan) []api.GroupPlan { groups[1].Plans[1].Codec = 4; return groups },
		"packing for strings": func(groups []api.GroupPlan) []api.GroupPlan { groups[0].Plans[1].Codec = 5; return groups },
		"a width for plain":   func(groups []api.GroupPlan) []api.GroupPlan { groups[1].Plans[1].Width = 1; return groups },
		"a width for a dict":  func(groups []api.GroupPlan) []api.GroupPlan { groups[0].Plans[1].Width = 1; return groups },
		"a width for runs":    func(groups []api.GroupPlan) []api.GroupPlan { groups[2].Plans[1].Width = 64; return groups },
		"a width above 64":    func(groups []api.GroupPlan) []api.GroupPlan { groups[1].Plans[0].Width = 65; return groups },
		"hashes, no filter":   func(groups []api.GroupPlan) []api.GroupPlan { groups[0].Plans[0].Hashes = 1; return groups },
		"a filter, no hashes": func(groups []api.GroupPlan) []api.GroupPlan { groups[0].Plans[0].Bloom = 1; return groups },
	} {
		refusesWrite(t, name, func(_ *api.Table, groups *[]api.GroupPlan) { *groups = change(*groups) })
	}
	for _, n := range append([]int{api.MaxBloom + 1, 1 << 40}, offLimits...) {
		refusesWrite(t, "words", func(_ *api.Table, groups *[]api.GroupPlan) { (*groups)[1].Plans[0].Bloom = n })
		refusesWrite(t, "hashes", func(_ *api.Table, groups *[]api.GroupPlan) { (*groups)[1].Plans[0].Hashes = n })
		refusesWrite(t, "a codec", func(_ *api.Table, groups *[]api.GroupPlan) { (*groups)[1].Plans[0].Codec = n })
		refusesWrite(t, "a width", func(_ *api.Table, groups *[]api.GroupPlan) { (*groups)[1].Plans[0].Width = n })
		refusesWrite(t, "rows", func(_ *api.Table, groups *[]api.GroupPlan) { (*groups)[1].Rows = n })
	}
	refusesWrite(t, "too many hashes", func(_ *api.Table, groups *[]api.GroupPlan) { (*groups)[1].Plans[0].Hashes = api.MaxHashes + 1 })
}

// The sum of the rows is an unbounded integer: it may not come out right by wrapping, nor by a group below 0.
func TestWriteRefusesRowsThatWrap(t *testing.T) {
	for _, rows := range [][]int{
		{math.MaxInt, math.MaxInt, 5}, {4, -1, 0}, {0, -1, 4}, {-1, 4, 0}, {math.MinInt, math.MinInt, 3}, {3, math.MaxInt, -math.MaxInt},
		{3, math.MinInt, math.MinInt}, {1, 1, 0}, {3, 1, 0}, {0, 0, 4},
	} {
		refusesWrite(t, "rows that do not add up", func(_ *api.Table, groups *[]api.GroupPlan) {
			for g := range rows {
				(*groups)[g].Rows = rows[g]
			}
		})
	}
}

func plain(columns, rows int) api.GroupPlan {
	return api.GroupPlan{Rows: rows, Plans: slices.Repeat([]api.Plan{{Codec: api.CodecPlain}}, columns)}
}

func TestLimitsOfATable(t *testing.T) {
	checkWrite(t, tableOf(api.MaxCols, 3, 1), []api.GroupPlan{plain(api.MaxCols, 3)})
	checkWrite(t, tableOf(1, 3, 1), slices.Insert(slices.Repeat([]api.GroupPlan{plain(1, 0)}, api.MaxGroups-1), 100, plain(1, 3)))
	long := api.Table{Kinds: []int{2}, Rows: [][]api.Cell{texts(strings.Repeat("s", api.MaxStr))}}
	plan := api.Plan{Codec: api.CodecRuns, Range: true, Bloom: api.MaxBloom, Hashes: api.MaxHashes}
	checkWrite(t, long, []api.GroupPlan{{Rows: 1, Plans: []api.Plan{plan}}})
	all := tableOf(1, api.MaxRows, 2)
	checkWrite(t, all, []api.GroupPlan{plain(1, api.MaxRows)})
	checkWrite(t, all, []api.GroupPlan{plain(1, api.MaxRows-1), plain(1, 0), plain(1, 1)})

	wide := tableOf(api.MaxCols+1, 3, 1)
	if _, code := format.Write(wide, []api.GroupPlan{plain(api.MaxCols+1, 3)}); code != api.ErrInput {
		t.Errorf("a column more: code %d", code)
	}
	if _, code := format.Write(api.Table{Kinds: []int{1}}, slices.Repeat([]api.GroupPlan{plain(1, 0)}, api.MaxGroups+1)); code != api.ErrInput {
		t.Errorf("a group more: code %d", code)
	}
	all.Rows = append(all.Rows, all.Rows[0])
	for _, groups := range [][]api.GroupPlan{{plain(1, api.MaxRows+1)}, {plain(1, api.MaxRows), plain(1, 1)}} {
		if _, code := format.Write(all, groups); code != api.ErrInput {
			t.Errorf("a row more in %d groups: code %d", len(groups), code)
		}
	}
}

// countUp gives a table of one column of kind with the numbers from first on.
func countUp(kind, n int, first int64) api.Table {
	table := api.Table{Kinds: []int{kind}}
	for i := range n {
		c := integer(first + int64(i))
		if kind == api.KindStr {
			c = text(string(u32(i)))
		}
		table.Rows = append(table.Rows, []api.Cell{c}, []api.Cell{c}, []api.Cell{null})
	}
	return table
}

func TestWriteIsUnfitByTheThreeConditionsAlone(t *testing.T) {
	for _, c := range []struct {
		table        api.Table
		codec, width int
		fits         bool
	}{
		{countUp(1, 256, 0), 2, 0, true}, {countUp(1, 257, 0), 2, 0, false},
		{countUp(2, 256, 0), 2, 0, true}, {countUp(2, 257, 0), 2, 0, false},
		{countUp(1, 16, -20), 4, 4, true}, {countUp(1, 17, -20), 4, 4, false},
		{countUp(1, 16, 0), 5, 4, true}, {countUp(1, 17, 0), 5, 4, false}, {countUp(1, 2, -1), 5, 64, false},
		{countUp(1, 300, least), 4, 9, true}, {countUp(1, 300, least), 4, 8, false}, {countUp(1, 300, greatest-299), 5, 63, true},
		{api.Table{Kinds: []int{1}, Rows: [][]api.Cell{{integer(least)}, {integer(greatest)}}}, 4, 64, true},
		{api.Table{Kinds: []int{1}, Rows: [][]api.Cell{{integer(least)}, {integer(greatest)}}}, 4, 63, false},
		{countUp(1, 1000, least), 1, 0, true}, {countUp(2, 1000, 0), 1, 0, true}, {countUp(1, 1000, -9), 3, 0, true},
	} {
		groups := []api.GroupPlan{plain(1, 0), {Rows: len(c.table.Rows), Plans: []api.Plan{{Codec: c.codec, Width: c.width, Range: true}}}}
		image := checkWrite(t, c.table, groups)
		if (len(image) > 0) != c.fits {
			t.Errorf("%d rows, codec %d, width %d: fits is not %v", len(c.table.Rows), c.codec, c.width, c.fits)
		}
		if _, code := format.Write(c.table, groups); !c.fits && code != api.ErrCodecUnfit {
			t.Errorf("%d rows, codec %d, width %d: code %d", len(c.table.Rows), c.codec, c.width, code)
		}
		// What is not in order comes first, also where it stands behind the chunk that is unfit.
		if _, code := format.Write(c.table, append(groups, api.GroupPlan{})); code != api.ErrInput {
			t.Errorf("%d rows, codec %d, a wrong group at the end: code %d", len(c.table.Rows), c.codec, code)
		}
	}
	// What is too much for one chunk is not for two.
	plans := []api.Plan{{Codec: api.CodecDict, Range: true, Bloom: 8, Hashes: 2}}
	checkWrite(t, countUp(1, 300, 0), []api.GroupPlan{{Rows: 450, Plans: plans}, {Rows: 450, Plans: plans}})
}
