package scan_test

import (
	"slices"
	"strings"
	"testing"

	"colscan/api"
	"colscan/format"
	"colscan/scan"
)

const (
	least    = -1 << 63
	greatest = 1<<63 - 1
	full     = 1<<64 - 1
)

var null = api.Cell{Null: true}

var and, or, not = api.Node{Op: api.OpAnd}, api.Node{Op: api.OpOr}, api.Node{Op: api.OpNot}

var allSwitches = []api.Switches{{}, {Range: true}, {Bloom: true}, {Range: true, Bloom: true}}

func integer(v int64) api.Cell { return api.Cell{Int: v} }

func text(s string) api.Cell { return api.Cell{Str: s} }

func integers(vals ...int64) []api.Cell {
	var cells []api.Cell
	for _, v := range vals {
		cells = append(cells, integer(v))
	}
	return cells
}

func texts(vals ...string) []api.Cell {
	var cells []api.Cell
	for _, v := range vals {
		cells = append(cells, text(v))
	}
	return cells
}

func leafOf(op, col int, args ...api.Cell) api.Node {
	return api.Node{Op: op, Col: col, Args: args}
}

func nodes(list ...api.Node) []api.Node { return list }

// column is a table of one column.
func column(kind int, cells ...api.Cell) api.Table {
	t := api.Table{Kinds: []int{kind}}
	for _, c := range cells {
		t.Rows = append(t.Rows, []api.Cell{c})
	}
	return t
}

func cellsOf(rows [][]api.Cell, col int) []api.Cell {
	var cells []api.Cell
	for _, row := range rows {
		cells = append(cells, row[col])
	}
	return cells
}

// bitmap sets the places of the flags that are true.
func bitmap(flags []bool) []uint64 {
	words := make([]uint64, (len(flags)+63)/64)
	for i, flag := range flags {
		if flag {
			words[i/64] |= 1 << (i % 64)
		}
	}
	return words
}

// dice gives numbers that have nothing to do with each other, the same in every run.
type dice struct{ state uint64 }

func (d *dice) number() uint64 {
	d.state += 0x9E3779B97F4A7C15
	z := (d.state ^ d.state>>30) * 0xBF58476D1CE4E5B9
	return z ^ z>>29
}

func (d *dice) below(n int) int { return int(d.number() >> 8 % uint64(n)) }

func (d *dice) oneIn(n int) bool { return d.below(n) == 0 }

func pick[E any](d *dice, list []E) E { return list[d.below(len(list))] }

// columnOf gives n cells of a kind; the style says what they are like.
func (d *dice) columnOf(kind, n, style int) []api.Cell {
	edges := integers(least, least+1, -1, 0, 1, greatest-1, greatest)
	words := texts("", "\x00", "a", "ab", "a\x00", "\xff\xff", strings.Repeat("z", 200))
	var cells []api.Cell
	for i := range n {
		c := pick(d, [][]api.Cell{integers(int64(d.below(4))), integers(int64(i/5) - 3), edges, integers(int64(d.number() % 1000))}[style%4])
		if kind == api.KindStr {
			c = pick(d, [][]api.Cell{words[:4], texts(strings.Repeat("b", i/6%9)), words, texts(strings.Repeat("q", d.below(30)))}[style%4])
		}
		if style/4%3 == 1 && d.oneIn(4) || style/4%3 == 2 && !d.oneIn(5) {
			c = null
		}
		cells = append(cells, c)
	}
	return cells
}

// table gives a table with so many columns and rows.
func (d *dice) table(columns, rows int) api.Table {
	t := api.Table{Rows: make([][]api.Cell, rows)}
	for range columns {
		kind := 1 + d.below(2)
		t.Kinds = append(t.Kinds, kind)
		for i, c := range d.columnOf(kind, rows, d.below(12)) {
			t.Rows[i] = append(t.Rows[i], c)
		}
	}
	return t
}

// split cuts rows into so many groups; some of them are empty.
func (d *dice) split(rows, groups int) []int {
	counts := make([]int, groups)
	for range rows {
		counts[d.below(groups)]++
	}
	if groups > 2 {
		counts[0] += counts[1]
		counts[1] = 0
	}
	return counts
}

// plan chooses how cells are written; they fit it.
func (d *dice) plan(kind int, cells []api.Cell) api.Plan {
	p := api.Plan{Codec: 1 + d.below(3), Range: !d.oneIn(3)}
	if !d.oneIn(3) {
		p.Bloom, p.Hashes = pick(d, []int{1, 2, 8, 64}), 1+d.below(8)
	}
	if kind == api.KindInt && d.oneIn(2) {
		p.Codec, p.Width = api.CodecFrame, pick(d, []int{64, 3, 10})
		if slices.IndexFunc(cells, func(c api.Cell) bool { return c.Int < 0 }) < 0 && d.oneIn(2) {
			p.Codec = api.CodecPacked
		}
		if slices.IndexFunc(cells, func(c api.Cell) bool { return c.Int < 0 || c.Int > 7 }) >= 0 {
			p.Width = pick(d, []int{63, 64})
		}
		if p.Codec == api.CodecFrame && p.Width == 63 {
			p.Width = 64
		}
	}
	return p
}

// groups splits a table into so many groups and chooses a plan for each chunk.
func (d *dice) groups(t api.Table, count int) []api.GroupPlan {
	var groups []api.GroupPlan
	first := 0
	for _, rows := range d.split(len(t.Rows), count) {
		g := api.GroupPlan{Rows: rows}
		for col, kind := range t.Kinds {
			g.Plans = append(g.Plans, d.plan(kind, cellsOf(t.Rows[first:first+rows], col)))
		}
		groups = append(groups, g)
		first += rows
	}
	return groups
}

// literal gives a value of the column, one near to such a value, or an edge.
func (d *dice) literal(t api.Table, col int) api.Cell {
	c := null
	if len(t.Rows) > 0 {
		c = pick(d, t.Rows)[col]
	}
	switch {
	case t.Kinds[col] == api.KindInt && (c.Null || d.oneIn(4)):
		return integer(pick(d, []int64{least, -1, 0, 2, 500, greatest}))
	case t.Kinds[col] == api.KindStr && (c.Null || d.oneIn(4)):
		return text(pick(d, []string{"", "\x00", "aa", "b", "bbb", "\xff\xff\xff"}))
	case t.Kinds[col] == api.KindInt && d.oneIn(3):
		return integer(c.Int + int64(d.below(3)) - 1)
	case t.Kinds[col] == api.KindStr && d.oneIn(3):
		return text(c.Str + "\x00")
	}
	return c
}

func (d *dice) leaf(t api.Table) api.Node {
	leaf := api.Node{Op: 1 + d.below(9), Col: d.below(len(t.Kinds))}
	count := map[int]int{api.OpIn: d.below(5), api.OpBetween: 2, api.OpIsNull: 0}
	n, special := count[leaf.Op]
	if !special {
		n = 1
	}
	for range n {
		leaf.Args = append(leaf.Args, d.literal(t, leaf.Col))
	}
	return leaf
}

// where gives a filter of so many leaves.
func (d *dice) where(t api.Table, leaves int) []api.Node {
	var out []api.Node
	switch leaves {
	case 0:
		return nil
	case 1:
		out = nodes(d.leaf(t))
	default:
		left := 1 + d.below(leaves-1)
		out = slices.Concat(d.where(t, left), d.where(t, leaves-left), nodes(pick(d, nodes(and, or))))
	}
	if d.oneIn(3) {
		out = append(out, not)
	}
	return out
}

// project gives some columns, and some of them twice.
func (d *dice) project(t api.Table) []int {
	var cols []int
	for range 1 + d.below(5) {
		cols = append(cols, d.below(len(t.Kinds)))
	}
	return cols
}

// aggregates gives some that are well-typed.
func (d *dice) aggregates(t api.Table) []api.Agg {
	aggs := []api.Agg{{Fn: api.AggRows}}
	for range d.below(6) {
		col := d.below(len(t.Kinds))
		for _, fn := range []int{api.AggCount, api.AggSum, api.AggMin, api.AggMax} {
			if fn != api.AggSum || t.Kinds[col] == api.KindInt {
				aggs = append(aggs, api.Agg{Fn: fn, Col: col})
			}
		}
	}
	return aggs
}

func (d *dice) query(t api.Table) api.Query {
	q := api.Query{Where: d.where(t, d.below(6))}
	if d.oneIn(2) {
		q.Cols = d.project(t)
	} else {
		q.Aggs = d.aggregates(t)
		q.Aggs = q.Aggs[:min(len(q.Aggs), api.MaxOut)]
	}
	return q
}

// write gives the image of a table that fits its plans.
func write(t *testing.T, table api.Table, groups []api.GroupPlan) []byte {
	t.Helper()
	b, code := format.Write(table, groups)
	if code != api.ErrNone {
		t.Fatalf("Write of %d rows in %d groups: code %d", len(table.Rows), len(groups), code)
	}
	return b
}

// evenly splits a table into groups of so many rows, all chunks written alike.
func evenly(t api.Table, rows int, p api.Plan) []api.GroupPlan {
	var groups []api.GroupPlan
	for left := len(t.Rows); left > 0; left -= rows {
		groups = append(groups, api.GroupPlan{Rows: min(rows, left), Plans: slices.Repeat([]api.Plan{p}, len(t.Kinds))})
	}
	return groups
}

// parse gives what the directory of a valid image says.
func parse(t *testing.T, b []byte) api.Image {
	t.Helper()
	im, code := format.Parse(b)
	if code != api.ErrNone {
		t.Fatalf("Parse: code %d", code)
	}
	return im
}

// same tells whether two outcomes are the same; an empty list and a nil list are.
func same(a, b api.Outcome) bool {
	return a.Err == b.Err && slices.EqualFunc(a.Rows, b.Rows, slices.Equal)
}

// checkRun holds the outcome of a query against the one that is due, for all settings of the switches.
func checkRun(t *testing.T, name string, b []byte, q api.Query, want api.Outcome) {
	t.Helper()
	for _, sw := range allSwitches {
		got := scan.Run(b, q, sw)
		if !same(got, want) {
			t.Errorf("%s, %+v, filter %+v, columns %v, aggregates %v: code %d and %d rows %v, want code %d and %d rows %v",
				name, sw, q.Where, q.Cols, q.Aggs, got.Err, len(got.Rows), front(got.Rows), want.Err, len(want.Rows), front(want.Rows))
		}
	}
}

// front is as much of a list as a message needs.
func front[E any](list []E) []E {
	return list[:min(len(list), 12)]
}
