package scan

import "colscan/api"

// operands is how many truth values a node with that op takes. A leaf takes none.
func operands(op int) int {
	switch op {
	case api.OpNot:
		return 1
	case api.OpAnd, api.OpOr:
		return 2
	}
	return 0
}

// walk works out a well-typed filter that is not empty. What stands for the truth values is the caller's: ask gives
// it for a leaf, and join for every other node (OpNot joins one value with nothing).
func walk[T any](where []api.Node, ask func(leaf api.Node) T, join func(op int, a T, b T) T) T {
	var stack []T
	for _, node := range where {
		taken := operands(node.Op)
		if taken == 0 {
			stack = append(stack, ask(node))
			continue
		}
		var b T
		first := len(stack) - taken
		if taken == 2 {
			b = stack[first+1]
		}
		stack[first] = join(node.Op, stack[first], b)
		stack = stack[:first+1]
	}
	return stack[0]
}
