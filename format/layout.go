package format

import (
	"slices"

	"colscan/api"
	"colscan/chunk"
	"colscan/wire"
)

// magic is what every image begins with.
const magic = "CSI1"

// directory is what stands before the data of an image.
type directory struct {
	kinds  []int
	groups []groupEntry
}

// groupEntry is what the directory says of a group: its rows, and an entry for each column.
type groupEntry struct {
	rows   int
	chunks []chunkEntry
}

// chunkEntry is what the directory says of a chunk.
type chunkEntry struct {
	offset int
	length int
	sum    uint32
	// zone is the length of the zone record.
	zone int
}

// section is the data of a group: a piece for each column.
type section struct {
	rows   int
	pieces []piece
}

// piece is the data of a chunk.
type piece struct {
	body   []byte
	record []byte
}

// dataStart is where the data of an image begins.
func dataStart(columns int, groups int) int {
	return 16 + columns + groups*(4+16*columns)
}

// readDirectory reads all that stands before the data. False: it is not in order, or it does not lay out the data
// without a gap and up to the end of b.
func readDirectory(b []byte) (directory, bool) {
	r := wire.NewReader(b)
	begin := string(r.Take(len(magic)))
	columns, groups, rows := r.U32(), r.U32(), r.U32()
	if begin != magic || columns < 1 || columns > api.MaxCols || groups > api.MaxGroups || rows > api.MaxRows {
		return directory{}, false
	}
	if len(b) < dataStart(columns, groups) {
		return directory{}, false
	}
	var d directory
	for range columns {
		d.kinds = append(d.kinds, r.Byte())
	}
	for range groups {
		d.groups = append(d.groups, readGroupEntry(r, columns))
	}
	return d, areKinds(d.kinds) && d.rows() == rows && d.fills(len(b))
}

func readGroupEntry(r *wire.Reader, columns int) groupEntry {
	g := groupEntry{rows: r.U32()}
	for range columns {
		e := chunkEntry{offset: r.U32(), length: r.U32()}
		e.sum = uint32(r.U32())
		e.zone = r.U32()
		g.chunks = append(g.chunks, e)
	}
	return g
}

func areKinds(kinds []int) bool {
	for _, kind := range kinds {
		if !chunk.IsKind(kind) {
			return false
		}
	}
	return true
}

// rows counts the rows of all groups.
func (d directory) rows() int {
	count := 0
	for _, g := range d.groups {
		count += g.rows
	}
	return count
}

// fills tells whether the chunks lie one behind the other, from the start of the data to the end of an image of
// that size.
func (d directory) fills(size int) bool {
	at := dataStart(len(d.kinds), len(d.groups))
	for _, g := range d.groups {
		for _, e := range g.chunks {
			if e.offset != at {
				return false
			}
			at += e.length + e.zone
		}
	}
	return at == size
}

// assemble lays out the image of these groups.
func assemble(kinds []int, sections []section) []byte {
	b := []byte(magic)
	b = wire.AppendU32s(b, []int{len(kinds), len(sections), rowsOf(sections)})
	for _, kind := range kinds {
		b = append(b, byte(kind))
	}
	at := dataStart(len(kinds), len(sections))
	for _, s := range sections {
		b = wire.AppendU32(b, s.rows)
		for _, p := range s.pieces {
			b = wire.AppendU32s(b, []int{at, len(p.body), int(Checksum(p.body)), len(p.record)})
			at += len(p.body) + len(p.record)
		}
	}
	b = slices.Grow(b, at-len(b))
	for _, s := range sections {
		for _, p := range s.pieces {
			b = append(b, p.body...)
			b = append(b, p.record...)
		}
	}
	return b
}

func rowsOf(sections []section) int {
	count := 0
	for _, s := range sections {
		count += s.rows
	}
	return count
}
