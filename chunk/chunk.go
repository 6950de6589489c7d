// Package chunk holds chunks whose bodies were looked through and found valid.
package chunk

import (
	"iter"
	"math/bits"
	"slices"

	"colscan/api"
)

// Chunk is a chunk that was looked through. Its values lie as the body has them: what List, Ends, Base and Lanes
// hold hangs on the codec.
type Chunk[V Value] struct {
	Rows  int
	Codec int
	Width int
	// Nulls is the bitmap of the rows that are NULL.
	Nulls []uint64
	// Count is how many rows are not NULL.
	Count int
	// List holds the values (CodecPlain), the dictionary (CodecDict) or a value for each run (CodecRuns).
	List []V
	// Ends holds the run ends (CodecRuns).
	Ends []int
	// Base is what the lanes count from: CodecPacked is a frame upon 0.
	Base int64
	// Lanes is the packing of Count lanes of that width: codes (CodecDict) or distances from Base.
	Lanes []uint64

	kind Kind[V]
	// nullsBefore counts for each word of Nulls the bits set in the words before it.
	nullsBefore []int
}

// Value is value number j among those that are not NULL, 0 <= j < Count.
func (c *Chunk[V]) Value(j int) V {
	switch c.Codec {
	case api.CodecPlain:
		return c.List[j]
	case api.CodecDict:
		return c.List[c.lane(j)]
	case api.CodecRuns:
		return c.List[c.run(j)]
	}
	// Only integers have a base, and a cell carries one over to V, whatever V is.
	return c.kind.Value(api.Cell{Int: c.Base + int64(c.lane(j))})
}

// Values goes through the values of the rows, each at least once. What stands in the dictionary and in no row is
// not among them.
func (c *Chunk[V]) Values() iter.Seq[V] {
	switch c.Codec {
	case api.CodecPlain, api.CodecRuns:
		return slices.Values(c.List)
	case api.CodecDict:
		return slices.Values(c.usedEntries())
	}
	return func(yield func(V) bool) {
		for j := range c.Count {
			if !yield(c.Value(j)) {
				return
			}
		}
	}
}

// usedEntries lists the entries of the dictionary that stand in some row.
func (c *Chunk[V]) usedEntries() []V {
	used := make([]bool, len(c.List))
	for j := range c.Count {
		used[c.lane(j)] = true
	}
	var entries []V
	for code, v := range c.List {
		if used[code] {
			entries = append(entries, v)
		}
	}
	return entries
}

// Cell is the cell of a row, 0 <= row < Rows.
func (c *Chunk[V]) Cell(row int) api.Cell {
	word, bit := row/64, uint(row%64)
	if c.Nulls[word]>>bit&1 == 1 {
		return api.Cell{Null: true}
	}
	nulls := c.nullsBefore[word] + bits.OnesCount64(c.Nulls[word]<<(63-bit))
	return c.kind.Cell(c.Value(row - nulls))
}

// Cells lists the cells of all rows.
func (c *Chunk[V]) Cells() []api.Cell {
	cells := make([]api.Cell, c.Rows)
	for row := range cells {
		cells[row] = c.Cell(row)
	}
	return cells
}

// Gather lists the cells of the given rows, each 0 <= row < Rows.
func (c *Chunk[V]) Gather(rows []int) []api.Cell {
	cells := make([]api.Cell, len(rows))
	for i, row := range rows {
		cells[i] = c.Cell(row)
	}
	return cells
}

// lane is lane number j.
func (c *Chunk[V]) lane(j int) uint64 {
	if c.Width == 0 {
		return 0
	}
	per := 64 / c.Width
	mask := uint64(1)<<uint(c.Width) - 1
	return c.Lanes[j/per] >> uint(j%per*c.Width) & mask
}

// run is the number of the run that value j lies in: the first that ends behind it.
func (c *Chunk[V]) run(j int) int {
	i, _ := slices.BinarySearch(c.Ends, j+1)
	return i
}

// countBefore counts for each word the bits set in the words before it.
func countBefore(words []uint64) []int {
	before := make([]int, len(words))
	count := 0
	for k, word := range words {
		before[k] = count
		count += bits.OnesCount64(word)
	}
	return before
}
