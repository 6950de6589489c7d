package scan_test

import (
	"slices"
	"testing"

	"colscan/api"
	"colscan/scan"
)

// sumImages are images of one column, in every codec that fits and every split into two groups.
func sumImages(t *testing.T, table api.Table) [][]byte {
	t.Helper()
	plans := []api.Plan{{Codec: 1}, {Codec: 2, Range: true}, {Codec: 3}, {Codec: 4, Width: 64, Bloom: 1, Hashes: 1}}
	if !slices.ContainsFunc(table.Rows, func(row []api.Cell) bool { return row[0].Int < 0 }) {
		plans = append(plans, api.Plan{Codec: 5, Width: 63})
	}
	var out [][]byte
	for i, p := range plans {
		for cut := range len(table.Rows) + 1 {
			groups := []api.GroupPlan{{Rows: cut, Plans: []api.Plan{p}}, {Rows: len(table.Rows) - cut, Plans: plans[(i+1)%4 : (i+1)%4+1]}}
			out = append(out, write(t, table, groups))
		}
		out = append(out, write(t, table, evenly(table, 1, p)))
	}
	return out
}

func TestSumsHangOnTheTotalAlone(t *testing.T) {
	for _, c := range []struct {
		vals []int64
		want int64
		err  int
	}{
		{[]int64{greatest}, greatest, 0}, {[]int64{least}, least, 0}, {[]int64{greatest, 1}, 0, api.ErrOverflow}, {[]int64{least, -1}, 0, api.ErrOverflow},
		{[]int64{greatest, 1, -1}, greatest, 0}, {[]int64{least, -1, 1}, least, 0}, {[]int64{greatest, greatest, -greatest, -greatest}, 0, 0},
		{[]int64{greatest, greatest, greatest, least, least, least}, -3, 0}, {[]int64{least, least, greatest, greatest, 2}, 0, 0}, {[]int64{least, least, greatest, greatest, 1}, -1, 0},
		{[]int64{greatest, greatest, 2}, 0, api.ErrOverflow}, {[]int64{least, least}, 0, api.ErrOverflow}, {[]int64{1 << 62, 1 << 62}, 0, api.ErrOverflow},
		{[]int64{1 << 62, 1<<62 - 1}, greatest, 0}, {[]int64{-1 << 62, -1 << 62}, least, 0}, {[]int64{-1 << 62, -1<<62 - 1}, 0, api.ErrOverflow},
		{[]int64{1 << 62, 1 << 62, 1 << 62, 1 << 62}, 0, api.ErrOverflow}, {[]int64{0, 0, 0}, 0, 0}, {slices.Repeat([]int64{greatest}, 9), 0, api.ErrOverflow},
	} {
		table := column(1, append(integers(c.vals...), null)...)
		want := api.Outcome{Rows: [][]api.Cell{{integer(int64(len(c.vals) + 1)), integer(c.want), integer(int64(len(c.vals)))}}}
		if c.err != api.ErrNone {
			want = api.Outcome{Err: c.err}
		}
		q := api.Query{Aggs: []api.Agg{{Fn: api.AggRows}, {Fn: api.AggSum}, {Fn: api.AggCount}}}
		if !same(modelRun(table, q), want) {
			t.Fatalf("the sum of %v: the model does not give %v", c.vals, want)
		}
		for _, b := range sumImages(t, table) {
			checkRun(t, "a sum", b, q, want)
		}
	}
}

// What is not selected does not count, and what does not fit counts whatever stands beside it.
func TestSumsOfSelectedRows(t *testing.T) {
	table := api.Table{Kinds: []int{1, 1, 2}, Rows: [][]api.Cell{
		{integer(greatest), integer(1), text("a")}, {integer(greatest), integer(2), text("b")}, {integer(least), null, text("c")}, {null, integer(4), null},
	}}
	big, small, rows, lowest := api.Agg{Fn: api.AggSum}, api.Agg{Fn: api.AggSum, Col: 1}, api.Agg{Fn: api.AggRows}, api.Agg{Fn: api.AggMin, Col: 2}
	over := api.Outcome{Err: api.ErrOverflow}
	for _, c := range []struct {
		where []api.Node
		aggs  []api.Agg
		want  api.Outcome
	}{
		{nil, []api.Agg{big}, api.Outcome{Rows: [][]api.Cell{integers(greatest - 1)}}},
		{nodes(leafOf(api.OpLt, 1, integer(3))), []api.Agg{big}, over}, {nodes(leafOf(api.OpLt, 1, integer(3))), []api.Agg{small}, api.Outcome{Rows: [][]api.Cell{integers(3)}}},
		{nodes(leafOf(api.OpLt, 1, integer(3))), []api.Agg{small, rows, lowest, big}, over}, {nodes(leafOf(api.OpLt, 1, integer(3))), []api.Agg{big, small}, over},
		{nodes(leafOf(api.OpLt, 1, integer(3))), []api.Agg{rows, big, rows}, over}, {nodes(leafOf(api.OpLt, 1, integer(2))), []api.Agg{big, small}, api.Outcome{Rows: [][]api.Cell{integers(greatest, 1)}}},
		{nodes(leafOf(api.OpEq, 2, text("c"))), []api.Agg{big, small}, api.Outcome{Rows: [][]api.Cell{{table.Rows[2][0], null}}}},
		{nodes(leafOf(api.OpIsNull, 0)), []api.Agg{big, small}, api.Outcome{Rows: [][]api.Cell{{null, integer(4)}}}},
		{nodes(leafOf(api.OpLt, 1, integer(3))), slices.Repeat([]api.Agg{rows, small, big, lowest}, 8), over},
	} {
		q := api.Query{Where: c.where, Aggs: c.aggs}
		if !same(modelRun(table, q), c.want) {
			t.Fatalf("%+v: the model does not give %v", q, c.want)
		}
		for rows := 1; rows <= 4; rows++ {
			for _, p := range []api.Plan{{Codec: 1, Range: true}, {Codec: 2, Bloom: 4, Hashes: 3}, {Codec: 3}} {
				checkRun(t, "selected", write(t, table, evenly(table, rows, p)), q, c.want)
			}
		}
	}
	// Columns are not summed: that their sums would not fit is no matter.
	b := write(t, table, evenly(table, 2, api.Plan{Codec: 1}))
	q := api.Query{Where: nodes(leafOf(api.OpLt, 1, integer(3))), Aggs: []api.Agg{{Fn: api.AggMax}, {Fn: api.AggCount}}}
	checkRun(t, "no sum", b, q, api.Outcome{Rows: [][]api.Cell{integers(greatest, 2)}})
}

func TestSumsOfVeryManyValues(t *testing.T) {
	for _, v := range []int64{greatest, least} {
		for _, p := range []api.Plan{{Codec: 1}, {Codec: 2}, {Codec: 3}, {Codec: 4, Width: 1}} {
			table := column(1, slices.Repeat(integers(v), api.MaxRows)...)
			for _, rows := range []int{api.MaxRows, api.MaxRows / 4, 256} {
				got := scan.Run(write(t, table, evenly(table, rows, p)), api.Query{Aggs: []api.Agg{{Fn: 3}}}, api.Switches{})
				if !same(got, api.Outcome{Err: api.ErrOverflow}) {
					t.Errorf("65536 times %d, codec %d, groups of %d: %v", v, p.Codec, rows, got)
				}
			}
		}
	}
	half := append(slices.Repeat(integers(greatest), api.MaxRows/2), slices.Repeat(integers(-greatest), api.MaxRows/2-1)...)
	table := column(1, append(half, integer(least))...)
	for _, rows := range []int{api.MaxRows, api.MaxRows / 2, 300} {
		b := write(t, table, evenly(table, rows, api.Plan{Codec: 3}))
		checkRun(t, "half and half", b, api.Query{Aggs: []api.Agg{{Fn: 3}}}, api.Outcome{Rows: [][]api.Cell{integers(-1)}})
	}
}
