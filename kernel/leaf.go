package kernel

import (
	"slices"

	"colscan/api"
	"colscan/chunk"
)

// test is what a leaf other than OpIsNull asks of a value.
type test[V chunk.Value] struct {
	op int
	// literals are in the leaf's order, but those of OpIn ascend and differ.
	literals []V
}

// testOf is the test of a leaf that is well-typed for the kind.
func testOf[V chunk.Value](kind chunk.Kind[V], leaf api.Node) test[V] {
	literals := make([]V, len(leaf.Args))
	for i, arg := range leaf.Args {
		literals[i] = kind.Value(arg)
	}
	if leaf.Op == api.OpIn {
		slices.Sort(literals)
		literals = slices.Compact(literals)
	}
	return test[V]{op: leaf.Op, literals: literals}
}

// holds tells whether the leaf is TRUE for v.
func (t test[V]) holds(v V) bool {
	switch t.op {
	case api.OpEq:
		return v == t.literals[0]
	case api.OpNe:
		return v != t.literals[0]
	case api.OpLt:
		return v < t.literals[0]
	case api.OpLe:
		return v <= t.literals[0]
	case api.OpGt:
		return v > t.literals[0]
	case api.OpGe:
		return v >= t.literals[0]
	case api.OpIn:
		_, found := slices.BinarySearch(t.literals, v)
		return found
	}
	return v >= t.literals[0] && v <= t.literals[1]
}
