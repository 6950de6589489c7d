// Package chunk holds chunks whose bodies were looked through and found valid.
package chunk

import (
	"iter"
	"math/bits"
	"slices"

	"colscan/api"
)

// Chunk is a chunk that was looked through. Its values lie as the body has them: what List, Ends, Base and Lanes
// hold hangs on the codec.
type Chunk[V Value] struct {
	Rows  int
	Codec int
	Width int
	// Nulls is the bitmap of the rows that are NULL.
	Nulls []uint64
	// Count is how many rows are not NULL.
	Count int
	// List holds the values (CodecPlain), the dictionary (CodecDict) or a value for each run (CodecRuns).
	List []V
	// Ends holds the run ends (CodecRuns).
	Ends []int
	// Base is what the lanes count from: CodecPacked is a frame upon 0.
	Base int64
	// Lanes is the packing of Count lanes of that width: codes (CodecDict) or distances from Base.
	Lanes []uint64

	kind Kind[V]
	// nullsBefore counts for each word of Nulls the bits set in the words before it.
	nullsBefore []int
}

// Value is value number j among those that are not NULL, 0 <= j < Count.
func (c *Chunk[V]) Value(j int) V {
	switch c.Codec {
	case api.CodecPlain:
		return c.List[j]
	case api.CodecDict:
		return c.List[c.lane(j)]
	case api.CodecRuns:
		return c.List[c.run(j)]
	}
	// Only integers have a base, and a cell carries one over to V, whatever V is.
	return c.kind.Value(api.Cell{Int: c.Base + int64(c.lane(j))})
}

// Values goes through the values of the rows, each at least once. What stands in the dictionary and in no row is
// not among them.
func (c *Chunk[V]) Values() iter.Seq[V] {
	switch c.Codec {
	case api.CodecPlain, api.CodecRuns:
		return slices.Values(c.List)
	case api.CodecDict:
		return slices.Values(c.usedEntries())
	}
	return func(yield func(V) bool) {
		for j := range c.Count {
			if !yield(c.Value(j)) {
				return
			}
		}
	}
}

// usedEntries lists the entries of the dictionary that stand in some row.
func (c *Chunk[V]) usedEntries() []V {
	used := make([]bool, len(c.List))
	for j := range c.Count {
		used[c.lane(j)] = true
	}
	var entries []V
	for code, v := range c.List {
		if used[code] {
			entries = append(entries, v)
		}
	}
	return entries
}

// Tally goes through the values in the rows that are set in sel, a bitmap of Rows bits, and tells with each how many
// of these rows it stands for. An entry of the dictionary is shown once at most, and so is a run.
func (c *Chunk[V]) Tally(sel []uint64) iter.Seq2[V, int] {
	return func(yield func(V, int) bool) {
		switch c.Codec {
		case api.CodecDict:
			showTally(c.List, c.tallyCodes(sel), yield)
		case api.CodecRuns:
			showTally(c.List, c.tallyRuns(sel), yield)
		default:
			for j := range c.chosen(sel) {
				if !yield(c.Value(j), 1) {
					return
				}
			}
		}
	}
}

// showTally yields the values that were counted.
func showTally[V Value](vals []V, counts []int, yield func(V, int) bool) {
	for i, times := range counts {
		if times > 0 && !yield(vals[i], times) {
			return
		}
	}
}

// tallyCodes counts for each entry of the dictionary the rows set in sel that it stands for.
func (c *Chunk[V]) tallyCodes(sel []uint64) []int {
	counts := make([]int, len(c.List))
	for j := range c.chosen(sel) {
		counts[c.lane(j)]++
	}
	return counts
}

// tallyRuns counts for each run the rows set in sel that it stands for.
func (c *Chunk[V]) tallyRuns(sel []uint64) []int {
	counts := make([]int, len(c.List))
	run := 0
	for j := range c.chosen(sel) {
		for c.Ends[run] <= j {
			run++
		}
		counts[run]++
	}
	return counts
}

// chosen goes through the numbers of the values in the rows that are set in sel, ascending.
func (c *Chunk[V]) chosen(sel []uint64) iter.Seq[int] {
	return func(yield func(int) bool) {
		for k, word := range sel {
			for word &^= c.Nulls[k]; word != 0; word &= word - 1 {
				if !yield(c.number(64*k + bits.TrailingZeros64(word))) {
					return
				}
			}
		}
	}
}

// number is the number, among the values, of the one in a row that is not NULL.
func (c *Chunk[V]) number(row int) int {
	word, bit := row/64, uint(row%64)
	return row - c.nullsBefore[word] - bits.OnesCount64(c.Nulls[word]<<(63-bit))
}

// Cell is the cell of a row, 0 <= row < Rows.
func (c *Chunk[V]) Cell(row int) api.Cell {
	if c.Nulls[row/64]>>uint(row%64)&1 == 1 {
		return api.Cell{Null: true}
	}
	return c.kind.Cell(c.Value(c.number(row)))
}

// Cells lists the cells of all rows.
func (c *Chunk[V]) Cells() []api.Cell {
	cells := make([]api.Cell, c.Rows)
	for row := range cells {
		cells[row] = c.Cell(row)
	}
	return cells
}

// Gather lists the cells of the given rows, each 0 <= row < Rows.
func (c *Chunk[V]) Gather(rows []int) []api.Cell {
	cells := make([]api.Cell, len(rows))
	for i, row := range rows {
		cells[i] = c.Cell(row)
	}
	return cells
}

// lane is lane number j.
func (c *Chunk[V]) lane(j int) uint64 {
	if c.Width == 0 {
		return 0
	}
	per := 64 / c.Width
	mask := uint64(1)<<uint(c.Width) - 1
	return c.Lanes[j/per] >> uint(j%per*c.Width) & mask
}

// run is the number of the run that value j lies in: the first that ends behind it.
func (c *Chunk[V]) run(j int) int {
	i, _ := slices.BinarySearch(c.Ends, j+1)
	return i
}

// countBefore counts for each word the bits set in the words before it.
func countBefore(words []uint64) []int {
	before := make([]int, len(words))
	count := 0
	for k, word := range words {
		before[k] = count
		count += bits.OnesCount64(word)
	}
	return before
}
