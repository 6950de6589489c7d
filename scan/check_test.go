package scan_test

import (
	"slices"
	"strings"
	"testing"

	"colscan/api"
	"colscan/scan"
)

// checkCode holds Check against the code that is due, and against the model.
func checkCode(t *testing.T, name string, kinds []int, q api.Query, want int) {
	t.Helper()
	if got := scan.Check(kinds, q); got != want {
		t.Errorf("%s: kinds %v, %d nodes %+v, columns %v, aggregates %v: code %d, want %d",
			name, kinds, len(q.Where), front(q.Where), front(q.Cols), front(q.Aggs), got, want)
	}
	if model := modelCheck(kinds, q); model != want {
		t.Errorf("%s: the model gives %d, want %d", name, model, want)
	}
}

// checkWhere holds a filter against the code that is due, whatever stands beside it.
func checkWhere(t *testing.T, name string, kinds []int, where []api.Node, want int) {
	t.Helper()
	checkCode(t, name, kinds, api.Query{Where: where, Cols: []int{0}}, want)
	checkCode(t, name, kinds, api.Query{Where: where, Aggs: []api.Agg{{Fn: api.AggRows}}}, want)
	checkCode(t, name, kinds, api.Query{Where: where}, api.ErrQuery)
}

func TestCheckRefusesKinds(t *testing.T) {
	good, bad := api.Query{Cols: []int{0}}, api.Query{Cols: []int{-1}}
	for _, kinds := range [][]int{
		nil, {}, {0}, {3}, {-1}, {1, 0}, {2, 1, 3}, {1<<32 + 1}, {least}, {greatest}, slices.Repeat([]int{1}, api.MaxCols+1), slices.Repeat([]int{9}, 100),
	} {
		for _, q := range []api.Query{good, bad, {}} {
			checkCode(t, "kinds", kinds, q, api.ErrInput)
		}
	}
	for _, kinds := range [][]int{{1}, {2}, {1, 2}, slices.Repeat([]int{2}, api.MaxCols)} {
		checkCode(t, "kinds", kinds, good, api.ErrNone)
		checkCode(t, "kinds", kinds, bad, api.ErrQuery)
		checkCode(t, "the last column", kinds, api.Query{Cols: []int{len(kinds) - 1}}, api.ErrNone)
		checkCode(t, "behind the last column", kinds, api.Query{Cols: []int{len(kinds)}}, api.ErrQuery)
	}
}

func TestCheckOfColumns(t *testing.T) {
	kinds := []int{1, 2, 1}
	rows := api.Agg{Fn: api.AggRows}
	for _, c := range []struct {
		name string
		cols []int
		aggs []api.Agg
		want int
	}{
		{"neither", nil, nil, api.ErrQuery}, {"empty lists", []int{}, []api.Agg{}, api.ErrQuery}, {"both", []int{0}, []api.Agg{rows}, api.ErrQuery},
		{"an empty list beside", []int{0}, []api.Agg{}, api.ErrNone}, {"an empty list before", []int{}, []api.Agg{rows}, api.ErrNone},
		{"a column", []int{2}, nil, api.ErrNone}, {"a column again", []int{1, 0, 1, 1}, nil, api.ErrNone},
		{"behind the last", []int{0, 3}, nil, api.ErrQuery}, {"below the first", []int{-1, 0}, nil, api.ErrQuery},
		{"far behind", []int{greatest}, nil, api.ErrQuery}, {"far below", []int{0, 0, least}, nil, api.ErrQuery}, {"2^32", []int{1 << 32}, nil, api.ErrQuery},
		{"32", slices.Repeat([]int{2}, api.MaxOut), nil, api.ErrNone}, {"33", slices.Repeat([]int{2}, api.MaxOut+1), nil, api.ErrQuery},
		{"32 aggregates", nil, slices.Repeat([]api.Agg{rows}, api.MaxOut), api.ErrNone}, {"33 aggregates", nil, slices.Repeat([]api.Agg{rows}, api.MaxOut+1), api.ErrQuery},
		{"the last is wrong", slices.Repeat([]int{2}, api.MaxOut-1), nil, api.ErrNone}, {"very many", slices.Repeat([]int{2}, 1<<20), nil, api.ErrQuery},
	} {
		checkCode(t, c.name, kinds, api.Query{Cols: c.cols, Aggs: c.aggs}, c.want)
	}
}

func TestCheckOfAggregates(t *testing.T) {
	kinds := []int{1, 2, 1}
	for _, fn := range []int{least, -1, 0, 1, 2, 3, 4, 5, 6, 1<<32 + 1, greatest} {
		for _, col := range []int{least, -1, 0, 1, 2, 3, 4, 1 << 32, greatest} {
			want := api.ErrQuery
			inside := col >= 0 && col <= 2
			if fn == api.AggRows && col == 0 || fn == api.AggSum && inside && col != 1 || (fn == 2 || fn == 4 || fn == 5) && inside {
				want = api.ErrNone
			}
			agg := api.Agg{Fn: fn, Col: col}
			checkCode(t, "one", kinds, api.Query{Aggs: []api.Agg{agg}}, want)
			checkCode(t, "the last of some", kinds, api.Query{Aggs: []api.Agg{{Fn: 1}, {Fn: 4, Col: 1}, agg}}, want)
		}
	}
	// A sum wants integers also where the string column is the first.
	checkCode(t, "a sum of strings", []int{2, 1}, api.Query{Aggs: []api.Agg{{Fn: api.AggSum}}}, api.ErrQuery)
	checkCode(t, "rows", []int{2, 1}, api.Query{Aggs: []api.Agg{{Fn: api.AggRows}}}, api.ErrNone)
}

func TestCheckOfLeaves(t *testing.T) {
	kinds := []int{1, 2}
	long := strings.Repeat("s", api.MaxStr)
	for col, right := range []api.Cell{integer(7), text(long)} {
		wrong := []api.Cell{null, text("a"), {Int: 1, Str: "a"}, {Null: true, Int: 1}, {Null: true, Str: "a"}, text(long + "s")}
		if col == 1 {
			wrong[1] = integer(1)
		}
		for op := -1; op <= 14; op++ {
			for count := range 4 {
				want := api.ErrQuery
				if op >= 1 && op <= 6 && count == 1 || op == api.OpIn || op == api.OpBetween && count == 2 || op == api.OpIsNull && count == 0 {
					want = api.ErrNone
				}
				args := slices.Repeat([]api.Cell{right}, count)
				checkWhere(t, "a leaf", kinds, nodes(leafOf(op, col, args...)), want)
				for _, col := range []int{-1, 2, least, greatest, 1 << 32} {
					checkWhere(t, "a leaf elsewhere", kinds, nodes(leafOf(op, col, args...)), api.ErrQuery)
				}
				for k := range args {
					for _, c := range wrong {
						other := slices.Clone(args)
						other[k] = c
						checkWhere(t, "a wrong literal", kinds, nodes(leafOf(op, col, other...)), api.ErrQuery)
					}
				}
			}
		}
	}
	// The cell that is 0 in every field is a literal for both kinds.
	checkWhere(t, "no field", kinds, nodes(leafOf(api.OpEq, 0, api.Cell{}), leafOf(api.OpEq, 1, api.Cell{}), or), api.ErrNone)
}

func TestCheckOfTheOrderOfNodes(t *testing.T) {
	x := leafOf(api.OpIsNull, 0)
	for _, c := range []struct {
		name  string
		where []api.Node
		want  int
	}{
		{"no filter", nil, 0}, {"an empty filter", nodes(), 0}, {"a leaf", nodes(x), 0}, {"two leaves", nodes(x, x), 2}, {"three leaves, one joined", nodes(x, x, x, and), 2},
		{"and", nodes(x, x, and), 0}, {"or", nodes(x, x, or), 0}, {"not", nodes(x, not), 0}, {"not not", nodes(x, not, not), 0}, {"not of nothing", nodes(not), 2},
		{"not of nothing, then a leaf", nodes(not, x), 2}, {"and of nothing", nodes(and), 2}, {"and of one", nodes(x, and), 2}, {"or of one", nodes(x, or), 2},
		{"and of one, then a leaf", nodes(x, and, x), 2}, {"infix", nodes(x, and, x), 2}, {"prefix", nodes(and, x, x), 2}, {"or of nothing", nodes(or), 2},
		{"not between", nodes(x, x, not, and), 0}, {"right", nodes(x, x, x, and, or), 0}, {"left", nodes(x, x, and, x, or), 0}, {"one too few", nodes(x, x, and, or), 2},
		{"too few in the middle, enough at the end", nodes(x, and, x, x, x), 2}, {"one left over, then not", nodes(x, x, not), 2},
		{"a joined pair and a leaf", nodes(x, x, and, x), 2}, {"the last joins too much", nodes(x, x, and, and), 2},
	} {
		checkWhere(t, c.name, []int{1, 2}, c.where, c.want)
	}
	for _, op := range []int{api.OpAnd, api.OpOr, api.OpNot} {
		for _, wrong := range []api.Node{{Op: op, Col: 1}, {Op: op, Col: -1}, {Op: op, Col: 5}, {Op: op, Args: integers(1)}, {Op: op, Args: []api.Cell{null}}} {
			checkWhere(t, "a node with more", []int{1, 2}, nodes(x, x, x, and, wrong), api.ErrQuery)
			checkWhere(t, "a node with more", []int{1, 2}, nodes(x, wrong), api.ErrQuery)
		}
		empty := api.Node{Op: op, Args: []api.Cell{}}
		checkWhere(t, "an empty list of literals", []int{1, 2}, nodes(x, x, and, x, empty)[:5], map[bool]int{true: api.ErrQuery, false: api.ErrNone}[op == api.OpNot])
	}
}

func TestCheckOfTheLimits(t *testing.T) {
	x := leafOf(api.OpIsNull, 0)
	many := func(n int) api.Node { return leafOf(api.OpIn, 0, slices.Repeat(integers(1), n)...) }
	for _, c := range []struct {
		name  string
		where []api.Node
		want  int
	}{
		{"256 nodes", append(nodes(x), slices.Repeat(nodes(not), api.MaxNodes-1)...), 0},
		{"257 nodes", append(nodes(x), slices.Repeat(nodes(not), api.MaxNodes)...), 2},
		{"255 nodes, deep", append(slices.Repeat(nodes(x), 128), slices.Repeat(nodes(and), 127)...), 0},
		{"257 nodes, deep", append(slices.Repeat(nodes(x), 129), slices.Repeat(nodes(and), 128)...), 2},
		{"1024 literals", nodes(many(1024)), 0}, {"1025 literals", nodes(many(1025)), 2},
		{"1024 literals of two", nodes(many(1000), many(24), or), 0}, {"1025 literals of two", nodes(many(1000), many(25), or), 2},
		{"1024 literals of three", nodes(many(511), many(511), or, leafOf(api.OpBetween, 0, integers(1, 2)...), or), 0},
		{"1025 literals of four", nodes(many(511), many(512), or, leafOf(api.OpBetween, 0, integers(1, 2)...), or), 2},
		{"1025 literals, one to each", nodes(many(1024), x, or, leafOf(api.OpEq, 0, integer(1)), or), 2},
		{"a million nodes", slices.Repeat(nodes(x), 1<<20), 2},
	} {
		checkWhere(t, c.name, []int{1, 2}, c.where, c.want)
	}
}

// One thing after the other of a well-typed query is changed; the model tells whether it stays well-typed.
func TestCheckOfChangedQueries(t *testing.T) {
	d := &dice{11}
	codes := map[int]int{}
	for range 8000 {
		table := d.table(1+d.below(4), 5)
		q := d.query(table)
		if code := scan.Check(table.Kinds, q); code != api.ErrNone {
			t.Fatalf("%+v for %v: code %d", q, table.Kinds, code)
		}
		changeQuery(d, &q)
		want := modelCheck(table.Kinds, q)
		codes[want]++
		checkCode(t, "changed", table.Kinds, q, want)
	}
	if codes[api.ErrNone] < 1000 || codes[api.ErrQuery] < 1000 {
		t.Errorf("of the changed queries, by code: %v", codes)
	}
}

// changeQuery changes one thing in a query.
func changeQuery(d *dice, q *api.Query) {
	odd := pick(d, []int{-1, 0, 1, 2, 3, 4, 5, 9, 10, 11, 12, 13})
	switch d.below(8) {
	case 0:
		q.Where = append(q.Where, pick(d, nodes(and, or, not, leafOf(api.OpIsNull, 0))))
	case 1:
		q.Cols = append(q.Cols, odd)
	case 2:
		q.Aggs = append(q.Aggs, api.Agg{Fn: odd, Col: d.below(5) - 1})
	case 3:
		q.Cols = nil
	default:
		if len(q.Where) > 0 {
			changeNode(d, q.Where, d.below(len(q.Where)), odd)
		}
	}
}

func changeNode(d *dice, where []api.Node, place, odd int) {
	node := &where[place]
	switch d.below(5) {
	case 0:
		node.Op = odd
	case 1:
		node.Col = odd
	case 2:
		node.Args = append(slices.Clone(node.Args), pick(d, []api.Cell{null, {}, integer(3), text("a")}))
	case 3:
		node.Args = node.Args[:len(node.Args)/2]
	case 4:
		where[place], where[0] = where[0], where[place]
	}
}
