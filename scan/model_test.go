package scan_test

import (
	"bytes"
	"cmp"
	"math/big"
	"slices"
	"strings"

	"colscan/api"
	"colscan/format"
)

// The model follows the document's words on the decoded table: truth values are the letters T, U and F, a set of
// them is a text, and sums are unbounded.

// compareValues tells how a stands to b, two values of one kind: below 0, 0 or above 0.
func compareValues(a, b api.Cell) int {
	if a.Int != b.Int {
		return cmp.Compare(a.Int, b.Int)
	}
	return bytes.Compare([]byte(a.Str), []byte(b.Str))
}

// modelRelation tells whether a stands in the relation op to b.
func modelRelation(op int, a, b api.Cell) bool {
	sign := compareValues(a, b)
	switch op {
	case api.OpEq:
		return sign == 0
	case api.OpNe:
		return sign != 0
	case api.OpLt:
		return sign < 0
	case api.OpLe:
		return sign <= 0
	case api.OpGt:
		return sign > 0
	}
	return sign >= 0
}

// modelLeaf is the truth value of a leaf for a cell.
func modelLeaf(leaf api.Node, c api.Cell) string {
	holds := false
	switch {
	case leaf.Op == api.OpIsNull:
		holds = c.Null
	case c.Null:
		return "U"
	case leaf.Op == api.OpIn:
		holds = slices.ContainsFunc(leaf.Args, func(arg api.Cell) bool { return compareValues(arg, c) == 0 })
	case leaf.Op == api.OpBetween:
		holds = compareValues(c, leaf.Args[0]) >= 0 && compareValues(c, leaf.Args[1]) <= 0
	default:
		holds = modelRelation(leaf.Op, c, leaf.Args[0])
	}
	if holds {
		return "T"
	}
	return "F"
}

var (
	notTable = map[string]string{"T": "F", "U": "U", "F": "T"}
	andTable = map[string]string{"TT": "T", "TU": "U", "TF": "F", "UT": "U", "UU": "U", "UF": "F", "FT": "F", "FU": "F", "FF": "F"}
	orTable  = map[string]string{"TT": "T", "TU": "T", "TF": "T", "UT": "T", "UU": "U", "UF": "U", "FT": "T", "FU": "U", "FF": "F"}
)

// modelSets works a filter out from its last node on; what is left of the nodes before is given too.
func modelSets(where []api.Node, leaf func(api.Node) string) (string, []api.Node) {
	last := where[len(where)-1]
	rest := where[:len(where)-1]
	var second, first string
	table := andTable
	switch last.Op {
	case api.OpNot:
		first, rest = modelSets(rest, leaf)
		return modelJoin(notTable, first, []string{""}), rest
	case api.OpOr:
		table = orTable
	case api.OpAnd:
	default:
		return leaf(last), rest
	}
	second, rest = modelSets(rest, leaf)
	first, rest = modelSets(rest, leaf)
	return modelJoin(table, first, strings.Split(second, "")), rest
}

// modelJoin gives every answer of the table for one out of the first and one out of the second.
func modelJoin(table map[string]string, first string, second []string) string {
	out := ""
	for _, x := range strings.Split(first, "") {
		for _, y := range second {
			if answer := table[x+y]; !strings.Contains(out, answer) {
				out += answer
			}
		}
	}
	return out
}

// modelTruth is the truth value of a filter for a row.
func modelTruth(where []api.Node, row []api.Cell) string {
	if len(where) == 0 {
		return "T"
	}
	truth, _ := modelSets(where, func(leaf api.Node) string { return modelLeaf(leaf, row[leaf.Col]) })
	return truth
}

// modelSelect lists the rows for which the filter is TRUE.
func modelSelect(rows [][]api.Cell, where []api.Node) [][]api.Cell {
	var out [][]api.Cell
	for _, row := range rows {
		if modelTruth(where, row) == "T" {
			out = append(out, row)
		}
	}
	return out
}

// modelRun is the outcome of a well-typed query.
func modelRun(t api.Table, q api.Query) api.Outcome {
	selected := modelSelect(t.Rows, q.Where)
	if len(q.Aggs) > 0 {
		return modelAggregate(selected, q.Aggs)
	}
	var out api.Outcome
	for _, row := range selected {
		var cells []api.Cell
		for _, col := range q.Cols {
			cells = append(cells, row[col])
		}
		out.Rows = append(out.Rows, cells)
	}
	return out
}

func modelAggregate(selected [][]api.Cell, aggs []api.Agg) api.Outcome {
	var row []api.Cell
	for _, agg := range aggs {
		vals := slices.DeleteFunc(cellsOf(selected, agg.Col), func(c api.Cell) bool { return c.Null })
		c := null
		switch {
		case agg.Fn == api.AggRows:
			c = integer(int64(len(selected)))
		case agg.Fn == api.AggCount:
			c = integer(int64(len(vals)))
		case len(vals) == 0:
		case agg.Fn == api.AggMin:
			c = slices.MinFunc(vals, compareValues)
		case agg.Fn == api.AggMax:
			c = slices.MaxFunc(vals, compareValues)
		default:
			sum := new(big.Int)
			for _, v := range vals {
				sum.Add(sum, big.NewInt(v.Int))
			}
			if !sum.IsInt64() {
				return api.Outcome{Err: api.ErrOverflow}
			}
			c = integer(sum.Int64())
		}
		row = append(row, c)
	}
	return api.Outcome{Rows: [][]api.Cell{row}}
}

// modelSkips tells for each group of a valid image whether it is skipped.
func modelSkips(im api.Image, where []api.Node, sw api.Switches) []bool {
	var out []bool
	for _, g := range im.Groups {
		set := "T"
		if len(where) > 0 {
			set, _ = modelSets(where, func(leaf api.Node) string {
				return modelPossible(im.Kinds[leaf.Col], g.Rows, g.Chunks[leaf.Col].Zone, sw, leaf)
			})
		}
		out = append(out, !strings.Contains(set, "T"))
	}
	return out
}

// modelPossible is the set of truth values that a zone leaves possible for a leaf.
func modelPossible(kind, n int, z api.Zone, sw api.Switches, leaf api.Node) string {
	rangeKnown := sw.Range && z.Range
	filterKnown := sw.Bloom && len(z.Bloom) > 0
	nulls := func(count int) bool { return rangeKnown && z.Nulls == count }
	if leaf.Op == api.OpIsNull {
		return letters(!nulls(0), !nulls(n), false)
	}
	absent := filterKnown
	for _, arg := range leaf.Args {
		absent = absent && !format.BloomHas(z.Bloom, z.Hashes, kind, arg)
	}
	never, always := false, false
	if rangeKnown && z.Nulls != n {
		never, always = modelBounds(z.Min, z.Max, leaf)
	}
	yes := !(nulls(n) || never || absent && (leaf.Op == api.OpEq || leaf.Op == api.OpIn))
	no := !(nulls(n) || always || absent && leaf.Op == api.OpNe)
	return letters(yes, no, !nulls(0))
}

func letters(yes, no, unknown bool) string {
	out := ""
	for i, flag := range []bool{yes, no, unknown} {
		if flag {
			out += "TFU"[i : i+1]
		}
	}
	return out
}

// modelBounds tells whether a leaf is never, and whether it is always TRUE in low..high, by the table of 6.3.
func modelBounds(low, high api.Cell, leaf api.Node) (never, always bool) {
	is := modelRelation
	outside := func(c api.Cell) bool { return is(api.OpLt, c, low) || is(api.OpGt, c, high) }
	if leaf.Op == api.OpIn {
		some := false
		never = true
		for _, arg := range leaf.Args {
			never = never && outside(arg)
			some = some || is(api.OpEq, arg, low)
		}
		return never, is(api.OpEq, low, high) && some
	}
	a, b := leaf.Args[0], leaf.Args[len(leaf.Args)-1]
	only := is(api.OpEq, low, a) && is(api.OpEq, high, a)
	switch leaf.Op {
	case api.OpEq:
		return outside(a), only
	case api.OpNe:
		return only, outside(a)
	case api.OpLt:
		return is(api.OpGe, low, a), is(api.OpLt, high, a)
	case api.OpLe:
		return is(api.OpGt, low, a), is(api.OpLe, high, a)
	case api.OpGt:
		return is(api.OpLe, high, a), is(api.OpGt, low, a)
	case api.OpGe:
		return is(api.OpLt, high, a), is(api.OpGe, low, a)
	}
	return is(api.OpLt, b, low) || is(api.OpGt, a, high) || is(api.OpGt, a, b), is(api.OpLe, a, low) && is(api.OpLe, high, b)
}

// modelCheck is the code that Check is to give.
func modelCheck(kinds []int, q api.Query) int {
	if len(kinds) == 0 || len(kinds) > 16 || slices.ContainsFunc(kinds, func(k int) bool { return k != 1 && k != 2 }) {
		return api.ErrInput
	}
	args := 0
	for _, node := range q.Where {
		args += len(node.Args)
		if !modelNode(kinds, node) {
			return api.ErrQuery
		}
	}
	if len(q.Where) > 256 || args > 1024 || len(q.Where) > 0 && !modelOneLeft(q.Where) {
		return api.ErrQuery
	}
	if len(q.Cols) > 0 && len(q.Aggs) > 0 || len(q.Cols)+len(q.Aggs) == 0 || len(q.Cols)+len(q.Aggs) > 32 {
		return api.ErrQuery
	}
	wrongCol := func(col int) bool { return col < 0 || col >= len(kinds) }
	wrongAgg := func(a api.Agg) bool {
		return a.Fn < 1 || a.Fn > 5 || wrongCol(a.Col) || a.Fn == 1 && a.Col != 0 || a.Fn == 3 && kinds[a.Col] != 1
	}
	if slices.ContainsFunc(q.Cols, wrongCol) || slices.ContainsFunc(q.Aggs, wrongAgg) {
		return api.ErrQuery
	}
	return api.ErrNone
}

func modelNode(kinds []int, node api.Node) bool {
	if node.Op >= 10 && node.Op <= 12 {
		return node.Col == 0 && len(node.Args) == 0
	}
	if node.Op < 1 || node.Op > 12 || node.Col < 0 || node.Col >= len(kinds) {
		return false
	}
	counts := []int{0, 1, 1, 1, 1, 1, 1, len(node.Args), 2, 0}
	if len(node.Args) != counts[node.Op] {
		return false
	}
	for _, c := range node.Args {
		isInt := kinds[node.Col] == 1 && c.Str == ""
		isStr := kinds[node.Col] == 2 && c.Int == 0 && len(c.Str) <= 1024
		if c.Null || !isInt && !isStr {
			return false
		}
	}
	return true
}

// modelOneLeft takes the nodes from the last on, and counts the values that are still wanted: what it takes for a
// filter to give exactly one is that none is wanted after the first node, and not before.
func modelOneLeft(where []api.Node) bool {
	wanted := 1
	for i := len(where) - 1; i >= 0; i-- {
		if wanted == 0 {
			return false
		}
		switch where[i].Op {
		case api.OpNot:
		case api.OpAnd, api.OpOr:
			wanted++
		default:
			wanted--
		}
	}
	return wanted == 0
}
