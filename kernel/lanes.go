package kernel

import (
	"slices"

	"colscan/api"
	"colscan/bitvec"
	"colscan/chunk"
)

// laneHits asks the lanes of a chunk whose lanes stand for its values: codes or distances from the base.
func laneHits[V chunk.Value](kind chunk.Kind[V], c *chunk.Chunk[V], t test[V]) []uint64 {
	switch t.op {
	case api.OpIn:
		hits := newBitmap(c.Count)
		for _, literal := range t.literals {
			unite(hits, compareLanes(kind, c, api.OpEq, literal))
		}
		return hits
	case api.OpBetween:
		hits := compareLanes(kind, c, api.OpGe, t.literals[0])
		intersect(hits, compareLanes(kind, c, api.OpLe, t.literals[1]))
		return hits
	}
	return compareLanes(kind, c, t.op, t.literals[0])
}

// compareLanes is the bitmap of the values that stand in the relation op to the literal.
func compareLanes[V chunk.Value](kind chunk.Kind[V], c *chunk.Chunk[V], op int, literal V) []uint64 {
	lane, exact := laneOf(kind, c, literal)
	if !exact {
		op, lane = besides(op, lane)
	}
	hits, _ := bitvec.Compare(c.Lanes, c.Width, c.Count, op, lane)
	return hits
}

// laneOf carries a literal over into the domain of the lanes. A lane is below the number exactly if its value is
// below the literal; exact tells whether the number, as a lane, stands for the literal itself.
func laneOf[V chunk.Value](kind chunk.Kind[V], c *chunk.Chunk[V], literal V) (lane uint64, exact bool) {
	if c.Codec == api.CodecDict {
		code, found := slices.BinarySearch(c.List, literal)
		return uint64(code), found
	}
	n := kind.Cell(literal).Int
	if n < c.Base {
		return 0, false
	}
	// The distance is right also where a signed subtraction would leave 64 bits.
	return uint64(n) - uint64(c.Base), true
}

// besides puts a relation to a literal that no lane stands for as one to the lane that follows the literal.
func besides(op int, next uint64) (int, uint64) {
	switch op {
	case api.OpEq:
		// Never: no lane is below 0.
		return api.OpLt, 0
	case api.OpNe:
		return api.OpGe, 0
	case api.OpLe:
		return api.OpLt, next
	case api.OpGt:
		return api.OpGe, next
	}
	return op, next
}
