package kernel

import (
	"math/bits"

	"colscan/api"
	"colscan/chunk"
)

// fold tells of the values in the rows that are set in sel, a bitmap of that many rows.
func fold[V chunk.Value](kind chunk.Kind[V], rows int, body []byte, sel []uint64) (api.Part, int) {
	c, ok := chunk.Look(kind, rows, body)
	if !ok {
		return api.Part{}, api.ErrMalformed
	}
	var whole api.Part
	for v, times := range c.Tally(sel) {
		whole = Merge(whole, partOf(kind.Cell(v), times))
	}
	return whole, api.ErrNone
}

// partOf is the Part of one value that occurs so many times. A string has 0 for its integer, and so for its sum.
func partOf(v api.Cell, times int) api.Part {
	high, low := bits.Mul64(uint64(v.Int), uint64(times))
	if v.Int < 0 {
		// As an unsigned number v was taken for 2^64 more than it is.
		high -= uint64(times)
	}
	return api.Part{Count: times, High: int64(high), Low: low, Min: v, Max: v}
}
