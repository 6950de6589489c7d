package scan_test

import (
	"fmt"
	"slices"
	"strings"
	"testing"

	"colscan/api"
	"colscan/format"
	"colscan/scan"
)

// people is a table with NULLs in both columns.
func people() api.Table {
	return api.Table{Kinds: []int{api.KindInt, api.KindStr}, Rows: [][]api.Cell{
		{integer(5), text("b")}, {null, text("a")}, {integer(-7), null}, {integer(5), text("")}, {integer(40), text("\xff")}, {null, null}, {integer(6), text("b\x00")},
	}}
}

// peopleImages are images of people in every codec and many splits.
func peopleImages(t *testing.T) [][]byte {
	t.Helper()
	var out [][]byte
	for _, ints := range []api.Plan{{Codec: 1}, {Codec: 2, Range: true}, {Codec: 3, Bloom: 2, Hashes: 2}, {Codec: 4, Width: 64, Range: true, Bloom: 1, Hashes: 1}, {Codec: 4, Width: 6}} {
		for strs := api.CodecPlain; strs <= api.CodecRuns; strs++ {
			for _, rows := range [][]int{{7}, {0, 7}, {7, 0}, {3, 4}, {1, 1, 1, 1, 1, 1, 1}, {0, 2, 0, 0, 4, 1, 0}} {
				var groups []api.GroupPlan
				for _, n := range rows {
					groups = append(groups, api.GroupPlan{Rows: n, Plans: []api.Plan{ints, {Codec: strs, Range: strs == 1, Bloom: 3, Hashes: 8}}})
				}
				out = append(out, write(t, people(), groups))
			}
		}
	}
	return out
}

func TestRunSelectsWhereTheFilterIsTrue(t *testing.T) {
	num := func(op int, args ...int64) api.Node { return leafOf(op, 0, integers(args...)...) }
	str := func(op int, args ...string) api.Node { return leafOf(op, 1, texts(args...)...) }
	images := peopleImages(t)
	for i, c := range []struct {
		where []api.Node
		want  []int
	}{
		{nil, []int{0, 1, 2, 3, 4, 5, 6}}, {nodes(num(api.OpIsNull)), []int{1, 5}}, {nodes(num(api.OpIsNull), not), []int{0, 2, 3, 4, 6}}, {nodes(str(api.OpIsNull)), []int{2, 5}},
		{nodes(num(api.OpEq, 5)), []int{0, 3}}, {nodes(num(api.OpEq, 5), not), []int{2, 4, 6}}, {nodes(num(api.OpNe, 5)), []int{2, 4, 6}}, {nodes(num(api.OpNe, 5), not), []int{0, 3}},
		{nodes(num(api.OpLt, 5)), []int{2}}, {nodes(num(api.OpLe, 5)), []int{0, 2, 3}}, {nodes(num(api.OpGt, 5)), []int{4, 6}}, {nodes(num(api.OpGe, 5)), []int{0, 3, 4, 6}},
		{nodes(num(api.OpIn)), nil}, {nodes(num(api.OpIn), not), []int{0, 2, 3, 4, 6}}, {nodes(num(api.OpIn, 40, 5, 5, 41)), []int{0, 3, 4}}, {nodes(num(api.OpBetween, 5, 6)), []int{0, 3, 6}},
		{nodes(num(api.OpBetween, 6, 5)), nil}, {nodes(num(api.OpBetween, 6, 5), not), []int{0, 2, 3, 4, 6}}, {nodes(str(api.OpGe, "b")), []int{0, 4, 6}}, {nodes(str(api.OpGt, "b")), []int{4, 6}},
		{nodes(str(api.OpLt, "b")), []int{1, 3}}, {nodes(str(api.OpLe, "")), []int{3}}, {nodes(str(api.OpLt, "")), nil}, {nodes(str(api.OpEq, "b")), []int{0}}, {nodes(str(api.OpIn, "\xff", "a")), []int{1, 4}},
		// UNKNOWN and FALSE is FALSE, so its NOT is TRUE; UNKNOWN or TRUE is TRUE.
		{nodes(num(api.OpEq, 5), str(api.OpEq, "x"), and, not), []int{0, 1, 2, 3, 4, 6}}, {nodes(num(api.OpEq, 5), str(api.OpEq, "a"), or), []int{0, 1, 3}},
		{nodes(num(api.OpEq, 5), num(api.OpEq, 5), not, or), []int{0, 2, 3, 4, 6}}, {nodes(num(api.OpEq, 5), num(api.OpEq, 5), not, and), nil},
		{nodes(num(api.OpEq, 5), num(api.OpIsNull), or), []int{0, 1, 3, 5}}, {nodes(num(api.OpIsNull), str(api.OpIsNull), and), []int{5}}, {nodes(num(api.OpIsNull), str(api.OpIsNull), or, not), []int{0, 3, 4, 6}},
		{nodes(num(api.OpGt, 0), str(api.OpGt, "a"), and, num(api.OpIsNull), or), []int{0, 1, 4, 5, 6}}, {nodes(num(api.OpGt, 0), str(api.OpGt, "a"), num(api.OpIsNull), or, and), []int{0, 4, 6}},
	} {
		for _, cols := range [][]int{{0, 1}, {1}, {0, 0, 1, 0}, slices.Repeat([]int{1, 0}, 16)} {
			var want api.Outcome
			for _, r := range c.want {
				var row []api.Cell
				for _, col := range cols {
					row = append(row, people().Rows[r][col])
				}
				want.Rows = append(want.Rows, row)
			}
			q := api.Query{Where: c.where, Cols: cols}
			if !same(modelRun(people(), q), want) {
				t.Fatalf("filter %d: the model does not give %v", i, c.want)
			}
			for _, b := range images {
				checkRun(t, "people", b, q, want)
			}
		}
	}
}

func TestRunAggregatesTheSelectedRows(t *testing.T) {
	aggs := []api.Agg{{Fn: 1}, {Fn: 2}, {Fn: 2, Col: 1}, {Fn: 3}, {Fn: 4}, {Fn: 5}, {Fn: 4, Col: 1}, {Fn: 5, Col: 1}}
	images := peopleImages(t)
	for i, c := range []struct {
		where []api.Node
		want  []api.Cell
	}{
		{nil, []api.Cell{integer(7), integer(5), integer(5), integer(49), integer(-7), integer(40), text(""), text("\xff")}},
		{nodes(leafOf(api.OpGt, 0, integer(5))), []api.Cell{integer(2), integer(2), integer(2), integer(46), integer(6), integer(40), text("b\x00"), text("\xff")}},
		{nodes(leafOf(api.OpIsNull, 0)), []api.Cell{integer(2), integer(0), integer(1), null, null, null, text("a"), text("a")}},
		{nodes(leafOf(api.OpIsNull, 1)), []api.Cell{integer(2), integer(1), integer(0), integer(-7), integer(-7), integer(-7), null, null}},
		{nodes(leafOf(api.OpIsNull, 0), leafOf(api.OpIsNull, 1), and), []api.Cell{integer(1), integer(0), integer(0), null, null, null, null, null}},
		{nodes(leafOf(api.OpEq, 0, integer(99))), []api.Cell{integer(0), integer(0), integer(0), null, null, null, null, null}},
		{nodes(leafOf(api.OpEq, 1, text(""))), []api.Cell{integer(1), integer(1), integer(1), integer(5), integer(5), integer(5), text(""), text("")}},
	} {
		for range len(aggs) {
			q := api.Query{Where: c.where, Aggs: aggs}
			want := api.Outcome{Rows: [][]api.Cell{c.want}}
			if !same(modelRun(people(), q), want) {
				t.Fatalf("filter %d: the model does not give %v", i, c.want)
			}
			for _, b := range images {
				checkRun(t, "people", b, q, want)
				checkRun(t, "the first alone", b, api.Query{Where: c.where, Aggs: aggs[:1]}, api.Outcome{Rows: [][]api.Cell{c.want[:1]}})
			}
			// Each stands in every place.
			aggs, c.want = append(aggs[1:len(aggs):len(aggs)], aggs[0]), append(c.want[1:len(c.want):len(c.want)], c.want[0])
		}
	}
}

func TestRunOfEmptyTables(t *testing.T) {
	for _, kinds := range [][]int{{1}, {2}, {2, 1}} {
		table := api.Table{Kinds: kinds}
		plans := slices.Repeat([]api.Plan{{Codec: 1, Range: true, Bloom: 1, Hashes: 1}}, len(kinds))
		for _, count := range []int{0, 1, 2, api.MaxGroups} {
			b := write(t, table, slices.Repeat([]api.GroupPlan{{Plans: plans}}, count))
			for _, where := range [][]api.Node{nil, nodes(leafOf(api.OpIsNull, 0)), nodes(leafOf(api.OpIsNull, 0), not)} {
				checkRun(t, "no rows", b, api.Query{Where: where, Cols: []int{0, 0}}, api.Outcome{})
				aggs := []api.Agg{{Fn: 1}, {Fn: 2}, {Fn: 4}, {Fn: 5}, {Fn: 2, Col: len(kinds) - 1}}
				want := []api.Cell{integer(0), integer(0), null, null, integer(0)}
				if last := len(kinds) - 1; kinds[last] == api.KindInt {
					aggs, want = append(aggs, api.Agg{Fn: api.AggSum, Col: last}), append(want, null)
				}
				checkRun(t, "no rows", b, api.Query{Where: where, Aggs: aggs}, api.Outcome{Rows: [][]api.Cell{want}})
			}
		}
	}
}

// Whatever the table, the query, the codecs, the zones and the split: the outcome is the one of the decoded table, for
// all settings of the switches, and what is skipped is what the rule says.
func TestRunOfManyTablesAndQueries(t *testing.T) {
	d := &dice{1}
	skipped, asked, overflows, selected := 0, 0, 0, 0
	for range 100 {
		table := d.table(1+d.below(4), pick(d, []int{0, 1, 5, 30, 64, 65, 150}))
		var images [][]byte
		for range 3 {
			images = append(images, write(t, table, d.groups(table, 1+d.below(7))))
		}
		for range 12 {
			q := d.query(table)
			want := modelRun(table, q)
			for _, b := range images {
				checkRun(t, "many", b, q, want)
				skipped += checkSkips(t, b, q)
				asked++
			}
			if want.Err == api.ErrOverflow {
				overflows++
			}
			if len(want.Rows) > 1 {
				selected++
			}
		}
	}
	if skipped < asked/2 || overflows < 5 || selected < 300 {
		t.Errorf("%d outcomes: %d groups skipped, %d overflows, %d with rows", asked, skipped, overflows, selected)
	}
}

// checkSkips holds Skips against the model, and the rows of skipped groups against the filter; it counts them.
func checkSkips(t *testing.T, b []byte, q api.Query) int {
	t.Helper()
	im := parse(t, b)
	table, _ := format.Read(b)
	count := 0
	for _, sw := range allSwitches {
		got, code := scan.Skips(b, q, sw)
		if want := modelSkips(im, q.Where, sw); code != api.ErrNone || !slices.Equal(got, want) {
			t.Errorf("%+v, filter %+v: %v, code %d, want %v", sw, q.Where, got, code, want)
			continue
		}
		first := 0
		for g, skipped := range got {
			rows := table.Rows[first : first+im.Groups[g].Rows]
			first += len(rows)
			if skipped {
				count++
			}
			if skipped && len(modelSelect(rows, q.Where)) > 0 {
				t.Errorf("%+v, filter %+v: group %d is skipped, and has rows", sw, q.Where, g)
			}
		}
	}
	return count
}

// One table written in every way gives one outcome.
func TestHowATableIsWrittenMakesNoDifference(t *testing.T) {
	d := &dice{6}
	for range 12 {
		table := d.table(2, 40+d.below(60))
		var queries []api.Query
		var wants []api.Outcome
		for range 20 {
			queries = append(queries, d.query(table))
			wants = append(wants, modelRun(table, queries[len(queries)-1]))
		}
		for range 40 {
			b := write(t, table, d.groups(table, 1+d.below(30)))
			for i, q := range queries {
				if got := scan.Run(b, q, pick(d, allSwitches)); !same(got, wants[i]) {
					t.Fatalf("%+v: %v, want %v", q, got, wants[i])
				}
			}
		}
	}
}

// deepFilters give filters of MaxNodes nodes at most, joined from the left, from the right and evenly.
func deepFilters(d *dice, table api.Table) map[string][]api.Node {
	left, right := nodes(d.leaf(table)), nodes(d.leaf(table))
	for len(left) < api.MaxNodes-1 {
		left = append(left, d.leaf(table), pick(d, nodes(and, or)))
		right = slices.Concat(nodes(d.leaf(table)), right, nodes(pick(d, nodes(and, or))))
	}
	level := [][]api.Node{}
	for range 128 {
		level = append(level, nodes(d.leaf(table)))
	}
	for len(level) > 1 {
		var next [][]api.Node
		for i := 0; i < len(level); i += 2 {
			next = append(next, slices.Concat(level[i], level[i+1], nodes(pick(d, nodes(and, or)))))
		}
		level = next
	}
	nots := append(nodes(d.leaf(table)), slices.Repeat(nodes(not), api.MaxNodes-1)...)
	return map[string][]api.Node{"left": append(left, not), "right": append(right, not), "even": append(level[0], not), "nots": nots}
}

func TestRunOfDeepFilters(t *testing.T) {
	d := &dice{8}
	for range 10 {
		table := d.table(4, 70)
		b := write(t, table, d.groups(table, 4))
		for name, where := range deepFilters(d, table) {
			if len(where) != api.MaxNodes {
				t.Fatalf("%s: %d nodes", name, len(where))
			}
			for _, q := range []api.Query{{Where: where, Cols: []int{3, 0}}, {Where: where, Aggs: []api.Agg{{Fn: 1}, {Fn: 4, Col: 2}}}} {
				checkRun(t, name, b, q, modelRun(table, q))
				checkSkips(t, b, q)
			}
			q := api.Query{Where: append(slices.Clone(where), not), Cols: []int{0}}
			checkRun(t, name+" and one node more", b, q, api.Outcome{Err: api.ErrQuery})
		}
	}
}

func TestRunAtTheLimits(t *testing.T) {
	d := &dice{9}
	wide := d.table(api.MaxCols, 30)
	var all []int
	for col := range api.MaxOut {
		all = append(all, col%api.MaxCols)
	}
	b := write(t, wide, d.groups(wide, 5))
	q := api.Query{Where: nodes(leafOf(api.OpIsNull, 15), leafOf(api.OpIsNull, 3), not, or), Cols: all}
	checkRun(t, "16 columns, 32 times", b, q, modelRun(wide, q))
	long := api.Table{Kinds: []int{1, 2}}
	for i := range api.MaxRows {
		long.Rows = append(long.Rows, []api.Cell{integer(int64(i % 1000)), text(fmt.Sprint(i % 200))})
	}
	plans := []api.Plan{{Codec: api.CodecPacked, Width: 10, Range: true}, {Codec: api.CodecDict, Bloom: 64, Hashes: 2}}
	one := write(t, long, []api.GroupPlan{{Rows: api.MaxRows, Plans: plans}})
	many := write(t, long, slices.Repeat([]api.GroupPlan{{Rows: api.MaxRows / api.MaxGroups, Plans: plans}}, api.MaxGroups))
	for _, q := range []api.Query{
		{Cols: []int{1, 0}}, {Where: nodes(leafOf(api.OpBetween, 0, integers(990, 995)...)), Cols: []int{1}}, {Where: nodes(leafOf(api.OpEq, 1, text("7"))), Cols: []int{0, 1}},
		{Aggs: []api.Agg{{Fn: 1}, {Fn: 3}, {Fn: 4, Col: 1}, {Fn: 5, Col: 1}}}, {Where: nodes(leafOf(api.OpLt, 0, integer(3)), not), Aggs: slices.Repeat([]api.Agg{{Fn: 3}}, api.MaxOut)},
	} {
		want := modelRun(long, q)
		for _, b := range [][]byte{one, many} {
			if got := scan.Run(b, q, byBoth); !same(got, want) {
				t.Errorf("%+v: code %d and %d rows, want code %d and %d rows", q, got.Err, len(got.Rows), want.Err, len(want.Rows))
			}
		}
	}
}

func TestRunOfLongStringsAndManyLiterals(t *testing.T) {
	top := strings.Repeat("\xff", api.MaxStr)
	table := column(2, text(top), null, text(top[1:]), text(""), text(top))
	literals := slices.Repeat(texts(top, "x"), api.MaxArgs/2)
	for _, p := range []api.Plan{{Codec: 1, Range: true}, {Codec: 2, Bloom: 64, Hashes: 8}, {Codec: 3}} {
		b := write(t, table, evenly(table, 2, p))
		for _, where := range [][]api.Node{nodes(leafOf(api.OpIn, 0, literals...)), nodes(leafOf(api.OpIn, 0, literals...), not), nodes(leafOf(api.OpGe, 0, text(top)))} {
			for _, q := range []api.Query{{Where: where, Cols: []int{0}}, {Where: where, Aggs: []api.Agg{{Fn: 4}, {Fn: 5}, {Fn: 2}}}} {
				checkRun(t, "long strings", b, q, modelRun(table, q))
			}
		}
	}
}

// Chunks need not be as Write makes them: a dictionary with unused entries, a base below the smallest value.
func TestRunOfOtherBodies(t *testing.T) {
	u64 := func(nums ...uint64) string {
		out := ""
		for _, n := range nums {
			for i := range 8 {
				out += string([]byte{byte(n >> (8 * i))})
			}
		}
		return out
	}
	for name, c := range map[string]struct {
		body  string
		cells []api.Cell
	}{
		"unused entries": {"\x02\x02" + u64(1) + "\x03\x00\x00\x00" + u64(5, 8, 9) + u64(1|1<<2), []api.Cell{null, integer(8), integer(8)}},
		"no entry used":  {"\x02\x01" + u64(7) + "\x02\x00\x00\x00" + u64(5, 8), []api.Cell{null, null, null}},
		"a low base":     {"\x04\x04" + u64(0, full-1) + u64(10|1<<4|10<<8), integers(8, -1, 8)},
		"a wide packing": {"\x05\x20" + u64(2) + u64(8|5<<32), []api.Cell{integer(8), null, integer(5)}},
	} {
		table := column(1, c.cells...)
		b := imageOf(c.body, 3)
		for _, where := range [][]api.Node{nil, nodes(leafOf(api.OpEq, 0, integer(5))), nodes(leafOf(api.OpNe, 0, integer(8))), nodes(leafOf(api.OpGe, 0, integer(8))), nodes(leafOf(api.OpIn, 0, integers(9, 5, -1)...), not)} {
			for _, q := range []api.Query{{Where: where, Cols: []int{0}}, {Where: where, Aggs: []api.Agg{{Fn: 1}, {Fn: 2}, {Fn: 3}, {Fn: 4}, {Fn: 5}}}} {
				checkRun(t, name, b, q, modelRun(table, q))
			}
		}
	}
}

// imageOf is the image of one chunk of integers, without a zone.
func imageOf(body string, rows int) []byte {
	u32 := func(n int) string { return string([]byte{byte(n), byte(n >> 8), byte(n >> 16), byte(n >> 24)}) }
	head := "CSI1" + u32(1) + u32(1) + u32(rows) + "\x01" + u32(rows)
	return []byte(head + u32(len(head)+16) + u32(len(body)) + u32(int(format.Checksum([]byte(body)))) + u32(1) + body + "\x00")
}
