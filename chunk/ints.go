package chunk

import (
	"colscan/api"
	"colscan/wire"
)

// Ints is the kind of the integers.
type Ints struct{}

// Number is KindInt.
func (Ints) Number() int {
	return api.KindInt
}

// Cell is the integer cell.
func (Ints) Cell(v int64) api.Cell {
	return api.Cell{Int: v}
}

// Value is the cell's integer.
func (Ints) Value(c api.Cell) int64 {
	return c.Int
}

// AppendList appends each integer as a u64.
func (Ints) AppendList(b []byte, vals []int64) []byte {
	for _, v := range vals {
		b = wire.AppendU64(b, uint64(v))
	}
	return b
}

func (Ints) readList(r *wire.Reader, count int) ([]int64, bool) {
	words := r.U64s(count)
	vals := make([]int64, len(words))
	for i, word := range words {
		vals[i] = int64(word)
	}
	return vals, !r.Short()
}
