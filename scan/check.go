package scan

import (
	"colscan/api"
	"colscan/chunk"
)

// areKinds tells whether a table may have columns of these kinds.
func areKinds(kinds []int) bool {
	if len(kinds) < 1 || len(kinds) > api.MaxCols {
		return false
	}
	for _, kind := range kinds {
		if !chunk.IsKind(kind) {
			return false
		}
	}
	return true
}

// isQuery tells whether a query is well-typed for a list of kinds that is in order.
func isQuery(kinds []int, q api.Query) bool {
	if (len(q.Cols) == 0) == (len(q.Aggs) == 0) {
		return false
	}
	return areCols(kinds, q.Cols) && areAggs(kinds, q.Aggs) && isWhere(kinds, q.Where)
}

func isColumn(kinds []int, col int) bool {
	return col >= 0 && col < len(kinds)
}

func areCols(kinds []int, cols []int) bool {
	if len(cols) > api.MaxOut {
		return false
	}
	for _, col := range cols {
		if !isColumn(kinds, col) {
			return false
		}
	}
	return true
}

func areAggs(kinds []int, aggs []api.Agg) bool {
	if len(aggs) > api.MaxOut {
		return false
	}
	for _, agg := range aggs {
		if !isAgg(kinds, agg) {
			return false
		}
	}
	return true
}

func isAgg(kinds []int, agg api.Agg) bool {
	switch agg.Fn {
	case api.AggRows:
		return agg.Col == 0
	case api.AggSum:
		return isColumn(kinds, agg.Col) && kinds[agg.Col] == api.KindInt
	case api.AggCount, api.AggMin, api.AggMax:
		return isColumn(kinds, agg.Col)
	}
	return false
}

// isWhere tells whether a filter is well-typed. The limits go first: they keep what is looked at small.
func isWhere(kinds []int, where []api.Node) bool {
	if len(where) > api.MaxNodes || countArgs(where) > api.MaxArgs {
		return false
	}
	for _, node := range where {
		if !isNode(kinds, node) {
			return false
		}
	}
	return givesOne(where)
}

func countArgs(where []api.Node) int {
	count := 0
	for _, node := range where {
		count += len(node.Args)
	}
	return count
}

func isNode(kinds []int, node api.Node) bool {
	if operands(node.Op) > 0 {
		return node.Col == 0 && len(node.Args) == 0
	}
	return isColumn(kinds, node.Col) && chunk.IsLeaf(kinds[node.Col], node)
}

// givesOne tells whether every node of a filter finds the values that it takes, and one is left at the end.
func givesOne(where []api.Node) bool {
	left := 0
	for _, node := range where {
		taken := operands(node.Op)
		if taken > left {
			return false
		}
		left += 1 - taken
	}
	return left == 1 || len(where) == 0
}
