package scan

import (
	"slices"

	"colscan/api"
	"colscan/chunk"
)

// neverBetween tells whether a leaf other than OpIsNull is TRUE for no value from low up to high.
func neverBetween(low api.Cell, high api.Cell, leaf api.Node) bool {
	switch leaf.Op {
	case api.OpIn:
		for _, literal := range leaf.Args {
			if !isOutside(low, high, literal) {
				return false
			}
		}
		return true
	case api.OpBetween:
		from, to := leaf.Args[0], leaf.Args[1]
		return chunk.Less(to, low) || chunk.Less(high, from) || chunk.Less(to, from)
	}
	return neverStands(low, high, leaf.Op, leaf.Args[0])
}

// alwaysBetween tells whether a leaf other than OpIsNull is TRUE for each value from low up to high.
func alwaysBetween(low api.Cell, high api.Cell, leaf api.Node) bool {
	switch leaf.Op {
	case api.OpIn:
		return low == high && slices.Contains(leaf.Args, low)
	case api.OpBetween:
		return !chunk.Less(low, leaf.Args[0]) && !chunk.Less(leaf.Args[1], high)
	}
	// A relation always holds where its opposite never does.
	return neverStands(low, high, opposite(leaf.Op), leaf.Args[0])
}

func isOutside(low api.Cell, high api.Cell, c api.Cell) bool {
	return chunk.Less(c, low) || chunk.Less(high, c)
}

// neverStands tells whether no value from low up to high stands in the relation op to c.
func neverStands(low api.Cell, high api.Cell, op int, c api.Cell) bool {
	switch op {
	case api.OpEq:
		return isOutside(low, high, c)
	case api.OpNe:
		return low == c && high == c
	case api.OpLt:
		return !chunk.Less(low, c)
	case api.OpLe:
		return chunk.Less(c, low)
	case api.OpGt:
		return !chunk.Less(c, high)
	}
	return chunk.Less(high, c)
}

// opposite is the relation that holds between two values exactly where op does not.
func opposite(op int) int {
	switch op {
	case api.OpEq:
		return api.OpNe
	case api.OpNe:
		return api.OpEq
	case api.OpLt:
		return api.OpGe
	case api.OpLe:
		return api.OpGt
	case api.OpGt:
		return api.OpLe
	}
	return api.OpLt
}
