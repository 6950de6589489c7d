package chunk

import "colscan/api"

// IsLeaf tells whether a node is a leaf that is well-typed for the kind.
func IsLeaf(kind int, node api.Node) bool {
	if !takes(node.Op, len(node.Args)) {
		return false
	}
	for _, arg := range node.Args {
		if !IsValue(kind, arg) {
			return false
		}
	}
	return IsKind(kind)
}

// takes tells whether op is a leaf's, and one that takes so many literals.
func takes(op int, count int) bool {
	switch op {
	case api.OpIn:
		return count <= api.MaxArgs
	case api.OpBetween:
		return count == 2
	case api.OpIsNull:
		return count == 0
	}
	return op >= api.OpEq && op <= api.OpGe && count == 1
}
