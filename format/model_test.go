package format_test

import (
	"hash/crc32"
	"hash/fnv"
	"slices"

	"colscan/api"
	"colscan/codec"
)

// The model follows the document's words step by step and leans on package codec alone; the calls of package
// format are held against it.

// modelPlaces lists the places of a value in a filter.
func modelPlaces(kind int, c api.Cell, hashes, words int) []int {
	hash := fnv.New64a()
	if kind == api.KindInt {
		hash.Write(u64(uint64(c.Int)))
	} else {
		hash.Write([]byte(c.Str))
	}
	h := hash.Sum64()
	var places []int
	for i := range uint64(hashes) {
		places = append(places, int((h%(1<<32)+i*(h>>32|1))%uint64(64*words)))
	}
	return places
}

func modelBloom(kind int, cells []api.Cell, hashes, words int) []uint64 {
	filter := make([]uint64, words)
	for _, c := range cells {
		if c.Null {
			continue
		}
		for _, p := range modelPlaces(kind, c, hashes, words) {
			filter[p/64] |= 1 << (p % 64)
		}
	}
	return filter
}

func modelHas(filter []uint64, hashes, kind int, c api.Cell) bool {
	for _, p := range modelPlaces(kind, c, hashes, len(filter)) {
		if filter[p/64]>>(p%64)&1 == 0 {
			return false
		}
	}
	return true
}

// compareValues orders values of one kind.
func compareValues(a, b api.Cell) int {
	if a.Int != b.Int {
		if a.Int < b.Int {
			return -1
		}
		return 1
	}
	return slices.Compare([]byte(a.Str), []byte(b.Str))
}

func valuesOf(cells []api.Cell) []api.Cell {
	return slices.DeleteFunc(slices.Clone(cells), func(c api.Cell) bool { return c.Null })
}

// modelZoneOf is the zone that the plan asks for.
func modelZoneOf(kind int, cells []api.Cell, p api.Plan) api.Zone {
	var z api.Zone
	vals := valuesOf(cells)
	if p.Range {
		z.Range, z.Nulls = true, len(cells)-len(vals)
		if len(vals) > 0 {
			z.Min, z.Max = slices.MinFunc(vals, compareValues), slices.MaxFunc(vals, compareValues)
		}
	}
	if p.Bloom > 0 {
		z.Hashes, z.Bloom = p.Hashes, modelBloom(kind, cells, p.Hashes, p.Bloom)
	}
	return z
}

// modelRecord is the record of a zone.
func modelRecord(kind, rows int, z api.Zone) []byte {
	record := []byte{0}
	if z.Range {
		record[0] |= 1
		record = append(record, u32(z.Nulls)...)
		if z.Nulls != rows {
			for _, c := range []api.Cell{z.Min, z.Max} {
				if kind == api.KindInt {
					record = append(record, u64(uint64(c.Int))...)
				} else {
					record = join(record, u32(len(c.Str)), []byte(c.Str))
				}
			}
		}
	}
	if len(z.Bloom) > 0 {
		record[0] |= 2
		record = join(record, []byte{byte(z.Hashes)}, u32(len(z.Bloom)), u64(z.Bloom...))
	}
	return record
}

// modelWrite gives the image, or ErrCodecUnfit; table and groups are in order.
func modelWrite(t api.Table, groups []api.GroupPlan) ([]byte, int) {
	var raw []rawGroup
	first := 0
	for _, g := range groups {
		r := rawGroup{rows: g.Rows}
		for col, p := range g.Plans {
			var cells []api.Cell
			for _, row := range t.Rows[first : first+g.Rows] {
				cells = append(cells, row[col])
			}
			body, code := codec.Encode(t.Kinds[col], cells, p.Codec, p.Width)
			if code != api.ErrNone {
				return nil, code
			}
			record := modelRecord(t.Kinds[col], g.Rows, modelZoneOf(t.Kinds[col], cells, p))
			r.chunks = append(r.chunks, rawChunk{body, record})
		}
		raw = append(raw, r)
		first += g.Rows
	}
	return build(t.Kinds, raw...), api.ErrNone
}

// scanner reads numbers and bytes; once there are too few it has failed.
type scanner struct {
	left   []byte
	failed bool
}

func (s *scanner) bytes(n int) []byte {
	if n > len(s.left) {
		s.failed = true
		return make([]byte, min(n, 8))
	}
	b := s.left[:n]
	s.left = s.left[n:]
	return b
}

func (s *scanner) number(size int) uint64 {
	n := uint64(0)
	for i, b := range s.bytes(size) {
		n += uint64(b) << (8 * i)
	}
	return n
}

// modelZone reads a zone record.
func modelZone(kind, rows int, record []byte) (api.Zone, bool) {
	s := &scanner{left: record}
	var z api.Zone
	flags := s.number(1)
	if flags > 3 {
		return z, false
	}
	if flags%2 == 1 {
		z.Range, z.Nulls = true, int(s.number(4))
		if z.Nulls > rows {
			return z, false
		}
		for _, bound := range []*api.Cell{&z.Min, &z.Max} {
			switch {
			case z.Nulls == rows:
			case kind == api.KindInt:
				bound.Int = int64(s.number(8))
			default:
				size := s.number(4)
				if size > api.MaxStr {
					return z, false
				}
				bound.Str = string(s.bytes(int(size)))
			}
		}
	}
	if flags >= 2 {
		z.Hashes = int(s.number(1))
		words := int(s.number(4))
		if z.Hashes < 1 || z.Hashes > api.MaxHashes || words < 1 || words > api.MaxBloom {
			return z, false
		}
		for range words {
			z.Bloom = append(z.Bloom, s.number(8))
		}
	}
	return z, !s.failed && len(s.left) == 0
}

func modelSound(kind int, cells []api.Cell, z api.Zone) bool {
	vals := valuesOf(cells)
	if z.Range && z.Nulls != len(cells)-len(vals) {
		return false
	}
	for _, v := range vals {
		if z.Range && (compareValues(v, z.Min) < 0 || compareValues(v, z.Max) > 0) {
			return false
		}
		if len(z.Bloom) > 0 && !modelHas(z.Bloom, z.Hashes, kind, v) {
			return false
		}
	}
	return true
}

// modelHeader reads all that stands before the data, and gives for each chunk the length of its record.
func modelHeader(b []byte) (im api.Image, records [][]int, ok bool) {
	s := &scanner{left: b}
	magic := string(s.bytes(4))
	columns, groups, rows := int(s.number(4)), int(s.number(4)), int(s.number(4))
	if s.failed || magic != "CSI1" || columns < 1 || columns > api.MaxCols || groups > api.MaxGroups || rows > api.MaxRows {
		return im, nil, false
	}
	for range columns {
		kind := int(s.number(1))
		if kind != api.KindInt && kind != api.KindStr {
			return im, nil, false
		}
		im.Kinds = append(im.Kinds, kind)
	}
	at := 16 + columns + groups*(4+16*columns)
	for range groups {
		g := api.Group{Rows: int(s.number(4))}
		rows -= g.Rows
		var lengths []int
		for range columns {
			c := api.Chunk{Offset: int(s.number(4)), Length: int(s.number(4)), Sum: uint32(s.number(4))}
			lengths = append(lengths, int(s.number(4)))
			if s.failed || c.Offset != at {
				return im, nil, false
			}
			at += c.Length + lengths[len(lengths)-1]
			g.Chunks = append(g.Chunks, c)
		}
		im.Groups = append(im.Groups, g)
		records = append(records, lengths)
	}
	return im, records, !s.failed && rows == 0 && at == len(b)
}

// modelLook gives what Parse and Read are to give, or false if b is no valid image.
func modelLook(b []byte) (api.Image, api.Table, bool) {
	im, records, ok := modelHeader(b)
	if !ok {
		return im, api.Table{}, false
	}
	t := api.Table{Kinds: im.Kinds}
	for i, g := range im.Groups {
		rows := make([][]api.Cell, min(g.Rows, api.MaxRows))
		for col := range g.Chunks {
			c := &g.Chunks[col]
			body, record := b[c.Offset:c.Offset+c.Length], b[c.Offset+c.Length:][:records[i][col]]
			cells, code := codec.Decode(im.Kinds[col], g.Rows, body)
			if code != api.ErrNone || crc32.ChecksumIEEE(body) != c.Sum {
				return im, t, false
			}
			c.Codec, c.Width = int(body[0]), int(body[1])
			c.Zone, ok = modelZone(im.Kinds[col], g.Rows, record)
			if !ok || !modelSound(im.Kinds[col], cells, c.Zone) {
				return im, t, false
			}
			for row, cell := range cells {
				rows[row] = append(rows[row], cell)
			}
		}
		t.Rows = append(t.Rows, rows...)
	}
	return im, t, true
}
