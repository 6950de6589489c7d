package kernel

import (
	"colscan/api"
	"colscan/bitvec"
	"colscan/chunk"
)

// filter tells what the leaf is for each row of a chunk of the kind.
func filter[V chunk.Value](kind chunk.Kind[V], rows int, body []byte, leaf api.Node) (api.Pair, int) {
	c, ok := chunk.Look(kind, rows, body)
	if !ok {
		return api.Pair{}, api.ErrMalformed
	}
	if !chunk.IsLeaf(kind.Number(), leaf) {
		return api.Pair{}, api.ErrQuery
	}
	if leaf.Op == api.OpIsNull {
		return api.Pair{True: c.Nulls, Unknown: newBitmap(rows)}, api.ErrNone
	}
	// A bitmap lies as lanes of width 1 do: a row is not NULL where the lane is 0.
	present, _ := bitvec.Compare(c.Nulls, 1, rows, api.OpEq, 0)
	hits, _ := bitvec.Expand(present, rows, hitsOf(kind, &c, testOf(kind, leaf)))
	return api.Pair{True: hits, Unknown: c.Nulls}, api.ErrNone
}

// hitsOf is a bitmap of the chunk's values, NULLs left out: those for which the test holds.
func hitsOf[V chunk.Value](kind chunk.Kind[V], c *chunk.Chunk[V], t test[V]) []uint64 {
	switch c.Codec {
	case api.CodecPlain:
		return plainHits(c, t)
	case api.CodecRuns:
		return runHits(c, t)
	}
	return laneHits(kind, c, t)
}

func plainHits[V chunk.Value](c *chunk.Chunk[V], t test[V]) []uint64 {
	hits := newBitmap(c.Count)
	for j, v := range c.List {
		if t.holds(v) {
			setRange(hits, j, j+1)
		}
	}
	return hits
}

func runHits[V chunk.Value](c *chunk.Chunk[V], t test[V]) []uint64 {
	hits := newBitmap(c.Count)
	start := 0
	for i, end := range c.Ends {
		if t.holds(c.List[i]) {
			setRange(hits, start, end)
		}
		start = end
	}
	return hits
}
