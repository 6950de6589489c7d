package scan

import (
	"sync"

	"colscan/api"
	"colscan/bitvec"
	"colscan/chunk"
	"colscan/codec"
	"colscan/kernel"
)

// share is what one row group gives to the answer; a group that is skipped gives the zero share.
type share struct {
	// rows are the projected rows, if the query projects.
	rows [][]api.Cell
	sums sums
}

// sums is what the aggregates of a query hang on.
type sums struct {
	// selected counts the selected rows.
	selected int
	// parts tell of each column that an aggregate names; those of the other columns tell of no value.
	parts []api.Part
}

// scanGroups lists the shares of the groups of a valid image. Each has a worker of its own, which writes its own
// entry of the list and nothing else.
func scanGroups(b []byte, im api.Image, q api.Query, sw api.Switches) []share {
	shares := make([]share, len(im.Groups))
	var workers sync.WaitGroup
	for i, g := range im.Groups {
		if isSkipped(im.Kinds, g, q.Where, sw) {
			continue
		}
		workers.Add(1)
		go func() {
			defer workers.Done()
			shares[i] = rowGroup{b, im.Kinds, g}.scan(q)
		}()
	}
	workers.Wait()
	return shares
}

// rowGroup is a group of a valid image: its chunks are not refused for what they are.
type rowGroup struct {
	image []byte
	kinds []int
	group api.Group
}

func (g rowGroup) body(col int) []byte {
	c := g.group.Chunks[col]
	return g.image[c.Offset : c.Offset+c.Length]
}

// scan answers a well-typed query for the group.
func (g rowGroup) scan(q api.Query) share {
	sel := g.selected(q.Where)
	if len(q.Cols) > 0 {
		return share{rows: g.project(q.Cols, sel)}
	}
	return share{sums: g.fold(q.Aggs, sel)}
}

// selected is the bitmap of the rows for which the filter is TRUE.
func (g rowGroup) selected(where []api.Node) []uint64 {
	rows := g.group.Rows
	if len(where) == 0 {
		// Lanes of width 0 take no words, and all of them are 0.
		all, _ := bitvec.Compare(nil, 0, rows, api.OpEq, 0)
		return all
	}
	ask := func(leaf api.Node) api.Pair {
		pair, _ := kernel.Filter(g.kinds[leaf.Col], rows, g.body(leaf.Col), leaf)
		return pair
	}
	join := func(op int, a api.Pair, b api.Pair) api.Pair {
		pair, _ := Kleene(op, rows, a, b)
		return pair
	}
	return walk(where, ask, join).True
}

// project lists the selected rows with the cells of these columns.
func (g rowGroup) project(cols []int, sel []uint64) [][]api.Cell {
	places, _ := bitvec.Indexes(sel, g.group.Rows)
	if len(places) == 0 {
		return nil
	}
	rows := chunk.EmptyRows(len(places), len(cols))
	fetched := make([][]api.Cell, len(g.kinds))
	for i, col := range cols {
		// A column may occur again, and is fetched once all the same.
		if fetched[col] == nil {
			fetched[col], _ = codec.Gather(g.kinds[col], g.group.Rows, g.body(col), places)
		}
		for j, cell := range fetched[col] {
			rows[j][i] = cell
		}
	}
	return rows
}

// fold folds each column that an aggregate names, once, under the selection.
func (g rowGroup) fold(aggs []api.Agg, sel []uint64) sums {
	rows := g.group.Rows
	out := sums{selected: bitvec.Rank(sel, rows, rows), parts: make([]api.Part, len(g.kinds))}
	for col, kind := range g.kinds {
		if namesColumn(aggs, col) {
			out.parts[col], _ = kernel.Fold(kind, rows, g.body(col), sel)
		}
	}
	return out
}

func namesColumn(aggs []api.Agg, col int) bool {
	for _, agg := range aggs {
		if agg.Fn != api.AggRows && agg.Col == col {
			return true
		}
	}
	return false
}
