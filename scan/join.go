package scan

import (
	"colscan/api"
	"colscan/kernel"
)

// joinRows lists the rows of all groups, one group behind the other.
func joinRows(shares []share) [][]api.Cell {
	var rows [][]api.Cell
	for _, s := range shares {
		rows = append(rows, s.rows...)
	}
	return rows
}

// joinSums gives the sums of a table with so many columns from those of its groups.
func joinSums(columns int, shares []share) sums {
	whole := sums{parts: make([]api.Part, columns)}
	for _, s := range shares {
		whole.selected += s.sums.selected
		for col, part := range s.sums.parts {
			whole.parts[col] = kernel.Merge(whole.parts[col], part)
		}
	}
	return whole
}

// aggregate is the row of the aggregates, or ErrOverflow if one of them has no value.
func aggregate(aggs []api.Agg, whole sums) ([]api.Cell, int) {
	row := make([]api.Cell, len(aggs))
	for i, agg := range aggs {
		cell, code := answer(agg.Fn, whole.selected, whole.parts[agg.Col])
		if code != api.ErrNone {
			return nil, code
		}
		row[i] = cell
	}
	return row, api.ErrNone
}

// answer is the cell of an aggregate over so many rows, of whose values the part tells.
func answer(fn int, selected int, part api.Part) (api.Cell, int) {
	switch fn {
	case api.AggRows:
		return api.Cell{Int: int64(selected)}, api.ErrNone
	case api.AggCount:
		return api.Cell{Int: int64(part.Count)}, api.ErrNone
	case api.AggSum:
		return kernel.Total(part)
	}
	if part.Count == 0 {
		return api.Cell{Null: true}, api.ErrNone
	}
	if fn == api.AggMin {
		return part.Min, api.ErrNone
	}
	return part.Max, api.ErrNone
}
