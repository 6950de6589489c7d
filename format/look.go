package format

import (
	"colscan/api"
	"colscan/chunk"
	"colscan/codec"
)

// look looks an image through. False: it is not valid.
func look(b []byte) (api.Image, bool) {
	d, ok := readDirectory(b)
	if !ok {
		return api.Image{}, false
	}
	im := api.Image{Kinds: d.kinds}
	for _, entry := range d.groups {
		g := api.Group{Rows: entry.rows}
		for col, e := range entry.chunks {
			c, ok := lookChunk(b, d.kinds[col], g.Rows, e)
			if !ok {
				return api.Image{}, false
			}
			g.Chunks = append(g.Chunks, c)
		}
		im.Groups = append(im.Groups, g)
	}
	return im, true
}

// lookChunk looks through the chunk of an entry that lies within b.
func lookChunk(b []byte, kind int, rows int, e chunkEntry) (api.Chunk, bool) {
	c := api.Chunk{Offset: e.offset, Length: e.length, Sum: e.sum}
	end := e.offset + e.length
	zone, ok := readZone(kind, rows, b[end:end+e.zone])
	if !ok || Checksum(bodyOf(b, c)) != e.sum {
		return api.Chunk{}, false
	}
	c.Zone = zone
	if kind == api.KindStr {
		return lookBody[string](chunk.Strs{}, rows, bodyOf(b, c), c)
	}
	return lookBody[int64](chunk.Ints{}, rows, bodyOf(b, c), c)
}

// lookBody holds the chunk's zone against its body, and gives the chunk with what the body tells of it.
func lookBody[V chunk.Value](kind chunk.Kind[V], rows int, body []byte, c api.Chunk) (api.Chunk, bool) {
	looked, ok := chunk.Look(kind, rows, body)
	if !ok || !isSound(kind, &looked, c.Zone) {
		return api.Chunk{}, false
	}
	c.Codec, c.Width = looked.Codec, looked.Width
	return c, true
}

func bodyOf(b []byte, c api.Chunk) []byte {
	return b[c.Offset : c.Offset+c.Length]
}

// readRows lists the rows of a group of a valid image.
func readRows(b []byte, kinds []int, g api.Group) [][]api.Cell {
	rows := chunk.EmptyRows(g.Rows, len(kinds))
	for col, c := range g.Chunks {
		// The image is valid, so no body is refused.
		cells, _ := codec.Decode(kinds[col], g.Rows, bodyOf(b, c))
		for i, cell := range cells {
			rows[i][col] = cell
		}
	}
	return rows
}

// rezoneSection is the data of a group with other zones, one for each column. False: one is not in order.
func rezoneSection(b []byte, kinds []int, g api.Group, zones []api.Zone) (section, bool) {
	s := section{rows: g.Rows}
	for col, c := range g.Chunks {
		if !isZone(kinds[col], g.Rows, zones[col]) {
			return section{}, false
		}
		record := zoneRecord(kinds[col], g.Rows, zones[col])
		s.pieces = append(s.pieces, piece{body: bodyOf(b, c), record: record})
	}
	return s, true
}
