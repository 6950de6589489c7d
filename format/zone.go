package format

import (
	"bytes"

	"colscan/api"
	"colscan/chunk"
	"colscan/wire"
)

// Flags of a zone record.
const (
	flagRange = 1
	flagBloom = 2
)

// isZone tells whether a zone is in order for a kind and that many rows.
func isZone(kind int, rows int, z api.Zone) bool {
	return isRange(kind, rows, z) && isFilterOrNone(len(z.Bloom), z.Hashes)
}

func isRange(kind int, rows int, z api.Zone) bool {
	boundless := z.Min == api.Cell{} && z.Max == api.Cell{}
	if !z.Range {
		return z.Nulls == 0 && boundless
	}
	if z.Nulls == rows {
		return boundless
	}
	return z.Nulls >= 0 && z.Nulls < rows && chunk.IsValue(kind, z.Min) && chunk.IsValue(kind, z.Max)
}

// zoneOf is the zone that a plan asks for the cells of a chunk.
func zoneOf(kind int, cells []api.Cell, plan api.Plan) api.Zone {
	z := api.Zone{Hashes: plan.Hashes}
	if plan.Range {
		z = withRange(z, cells)
	}
	// A plan without a filter asks for 0 words, and there is no such filter.
	z.Bloom, _ = Bloom(kind, cells, plan.Hashes, plan.Bloom)
	return z
}

func withRange(z api.Zone, cells []api.Cell) api.Zone {
	z.Range = true
	empty := true
	for _, c := range cells {
		switch {
		case c.Null:
			z.Nulls++
		case empty:
			z.Min, z.Max, empty = c, c, false
		case chunk.Less(c, z.Min):
			z.Min = c
		case chunk.Less(z.Max, c):
			z.Max = c
		}
	}
	return z
}

// zoneRecord is the record of a zone that is in order for the kind and that many rows.
func zoneRecord(kind int, rows int, z api.Zone) []byte {
	record := []byte{zoneFlags(z)}
	if z.Range {
		record = wire.AppendU32(record, z.Nulls)
	}
	if z.Range && z.Nulls != rows {
		record = appendBound(record, kind, z.Min)
		record = appendBound(record, kind, z.Max)
	}
	if len(z.Bloom) > 0 {
		record = append(record, byte(z.Hashes))
		record = wire.AppendU32(record, len(z.Bloom))
		record = wire.AppendU64s(record, z.Bloom)
	}
	return record
}

func zoneFlags(z api.Zone) byte {
	flags := byte(0)
	if z.Range {
		flags |= flagRange
	}
	if len(z.Bloom) > 0 {
		flags |= flagBloom
	}
	return flags
}

func appendBound(record []byte, kind int, c api.Cell) []byte {
	if kind == api.KindStr {
		record = wire.AppendU32(record, len(c.Str))
		return append(record, c.Str...)
	}
	return wire.AppendU64(record, uint64(c.Int))
}

// readZone reads a record back. False: it is the record of no zone in order for the kind and that many rows.
func readZone(kind int, rows int, record []byte) (api.Zone, bool) {
	r := wire.NewReader(record)
	var z api.Zone
	flags := r.Byte()
	if flags&flagRange != 0 {
		z.Range = true
		z.Nulls = r.U32()
	}
	if z.Range && z.Nulls != rows {
		z.Min = readBound(r, kind)
		z.Max = readBound(r, kind)
	}
	if flags&flagBloom != 0 {
		z.Hashes = r.Byte()
		z.Bloom = r.U64s(r.U32())
	}
	// Unknown flags, a filter of no words, bytes that are missing and bytes left over all show in the record
	// that the zone would have.
	if !isZone(kind, rows, z) || !bytes.Equal(record, zoneRecord(kind, rows, z)) {
		return api.Zone{}, false
	}
	return z, true
}

func readBound(r *wire.Reader, kind int) api.Cell {
	if kind == api.KindStr {
		return api.Cell{Str: string(r.Take(r.U32()))}
	}
	return api.Cell{Int: int64(r.U64())}
}

// isSound tells whether all that a zone says holds for a chunk of the kind.
func isSound[V chunk.Value](kind chunk.Kind[V], c *chunk.Chunk[V], z api.Zone) bool {
	if z.Range && z.Nulls != c.Rows-c.Count {
		return false
	}
	least, greatest := kind.Value(z.Min), kind.Value(z.Max)
	for v := range c.Values() {
		if z.Range && (v < least || v > greatest) {
			return false
		}
		if len(z.Bloom) > 0 && !hasHash(z.Bloom, z.Hashes, hashOf(kind.Number(), kind.Cell(v))) {
			return false
		}
	}
	return true
}
