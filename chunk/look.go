package chunk

import (
	"math"

	"colscan/api"
	"colscan/bitvec"
	"colscan/wire"
)

// Look looks a body through. False: it is not valid for the kind and that many rows.
func Look[V Value](kind Kind[V], rows int, body []byte) (Chunk[V], bool) {
	r := wire.NewReader(body)
	c := Chunk[V]{Rows: rows, kind: kind}
	c.Codec = r.Byte()
	c.Width = r.Byte()
	c.Nulls = r.U64s((rows + 63) / 64)
	// Rank refuses what is no bitmap of that many bits, and numbers of rows that are out of range.
	nulls := bitvec.Rank(c.Nulls, rows, rows)
	if nulls < 0 || !IsCodec(kind.Number(), c.Codec) {
		return Chunk[V]{}, false
	}
	c.Count = rows - nulls
	c.nullsBefore = countBefore(c.Nulls)
	if !c.readPayload(r) || r.Short() || r.Left() > 0 {
		return Chunk[V]{}, false
	}
	return c, true
}

// readPayload reads the payload of a codec that is for the kind. Whether the reader ran short, or has bytes left
// over, is for the caller to ask.
func (c *Chunk[V]) readPayload(r *wire.Reader) bool {
	switch c.Codec {
	case api.CodecPlain:
		return c.readPlain(r)
	case api.CodecDict:
		return c.readDict(r)
	case api.CodecRuns:
		return c.readRuns(r)
	case api.CodecFrame:
		c.Base = int64(r.U64())
	}
	return c.readOffsets(r)
}

func (c *Chunk[V]) readPlain(r *wire.Reader) bool {
	vals, ok := c.kind.readList(r, c.Count)
	c.List = vals
	return ok && c.Width == 0
}

func (c *Chunk[V]) readDict(r *wire.Reader) bool {
	size := r.U32()
	if size > api.MaxDict || c.Width != Need(size) {
		return false
	}
	dict, ok := c.kind.readList(r, size)
	c.List = dict
	return ok && ascending(dict) && c.readLanes(r, api.OpGe, uint64(size))
}

func (c *Chunk[V]) readRuns(r *wire.Reader) bool {
	count := r.U32()
	c.Ends = r.U32s(count)
	if c.Width != 0 || !areRunEnds(c.Ends, c.Count) {
		return false
	}
	vals, ok := c.kind.readList(r, count)
	c.List = vals
	return ok && neighboursDiffer(vals)
}

func (c *Chunk[V]) readOffsets(r *wire.Reader) bool {
	// The subtraction wraps where the base is negative, and gives the distance all the same.
	room := uint64(math.MaxInt64) - uint64(c.Base)
	return c.readLanes(r, api.OpGt, room)
}

// readLanes takes what is left as lanes, of which none may stand in the relation op to limit.
func (c *Chunk[V]) readLanes(r *wire.Reader, op int, limit uint64) bool {
	c.Lanes = r.U64s(r.Left() / 8)
	wrong, ok := bitvec.Compare(c.Lanes, c.Width, c.Count, op, limit)
	return ok && bitvec.Rank(wrong, c.Count, c.Count) == 0
}

func ascending[V Value](vals []V) bool {
	for i := 1; i < len(vals); i++ {
		if vals[i-1] >= vals[i] {
			return false
		}
	}
	return true
}

func neighboursDiffer[V Value](vals []V) bool {
	for i := 1; i < len(vals); i++ {
		if vals[i-1] == vals[i] {
			return false
		}
	}
	return true
}

// areRunEnds tells whether the ends cut so many values into runs.
func areRunEnds(ends []int, count int) bool {
	last := 0
	for _, end := range ends {
		if end <= last {
			return false
		}
		last = end
	}
	return last == count
}
