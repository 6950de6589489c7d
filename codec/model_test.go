package codec_test

import (
	"math/big"
	"slices"

	"colscan/api"
)

// model reads bodies as the table of 3.1 says, number by number and with unbounded integers, to hold the codec
// against. Each step gives false where the body is not valid.
type model struct {
	kind, codec, width, count int
	left                      []byte
}

func modelDecode(kind, rows int, body []byte) ([]api.Cell, bool) {
	words := (rows + 63) / 64
	if len(body) < 2+8*words {
		return nil, false
	}
	nulls := body[2 : 2+8*words]
	m := model{kind: kind, codec: int(body[0]), width: int(body[1]), left: body[2+8*words:]}
	cells := make([]api.Cell, rows)
	for i := range 64 * words {
		set := nulls[i/8]>>(i%8)&1 == 1
		switch {
		case i >= rows && set:
			return nil, false
		case i < rows && set:
			cells[i] = null
		case i < rows:
			m.count++
		}
	}
	vals, ok := m.payload()
	if !ok || len(m.left) != 0 || len(vals) != m.count {
		return nil, false
	}
	for i := range cells {
		if !cells[i].Null {
			cells[i], vals = vals[0], vals[1:]
		}
	}
	return cells, true
}

func (m *model) payload() ([]api.Cell, bool) {
	switch {
	case m.codec == api.CodecPlain && m.width == 0:
		return m.list(m.count)
	case m.codec == api.CodecDict:
		return m.dict()
	case m.codec == api.CodecRuns && m.width == 0:
		return m.runs()
	case m.codec == api.CodecFrame && m.kind == api.KindInt:
		base, ok := m.number(8)
		if !ok {
			return nil, false
		}
		return m.offsets(big.NewInt(int64(base)))
	case m.codec == api.CodecPacked && m.kind == api.KindInt:
		return m.offsets(new(big.Int))
	}
	return nil, false
}

func (m *model) number(size int) (uint64, bool) {
	if len(m.left) < size {
		return 0, false
	}
	n := uint64(0)
	for i, b := range m.left[:size] {
		n += uint64(b) << (8 * i)
	}
	m.left = m.left[size:]
	return n, true
}

// list reads so many values.
func (m *model) list(count int) ([]api.Cell, bool) {
	var ends []int
	var vals []api.Cell
	for range count {
		size := 8
		if m.kind == api.KindStr {
			size = 4
		}
		n, ok := m.number(size)
		if !ok {
			return nil, false
		}
		vals = append(vals, integer(int64(n)))
		ends = append(ends, int(n))
	}
	if m.kind == api.KindInt {
		return vals, true
	}
	start := 0
	for i, end := range ends {
		if end < start || end > start+api.MaxStr || end-start > len(m.left) {
			return nil, false
		}
		vals[i] = text(string(m.left[:end-start]))
		m.left = m.left[end-start:]
		start = end
	}
	return vals, true
}

// lanes reads the packing of as many lanes as there are values, bit by bit.
func (m *model) lanes() ([]uint64, bool) {
	if m.width < 0 || m.width > 64 {
		return nil, false
	}
	lanes := make([]uint64, m.count)
	if m.width == 0 {
		return lanes, true
	}
	per := 64 / m.width
	for k := range (m.count + per - 1) / per {
		word, ok := m.number(8)
		if !ok {
			return nil, false
		}
		for bit := range 64 {
			j := k*per + bit/m.width
			if word>>bit&1 == 0 {
				continue
			}
			if bit/m.width >= per || j >= m.count {
				return nil, false
			}
			lanes[j] |= 1 << (bit % m.width)
		}
	}
	return lanes, true
}

func (m *model) dict() ([]api.Cell, bool) {
	size, ok := m.number(4)
	if !ok || size > api.MaxDict || m.width != modelNeed(int(size)) {
		return nil, false
	}
	entries, ok := m.list(int(size))
	if !ok || !slices.IsSortedFunc(entries, compareCells) || len(slices.Compact(slices.Clone(entries))) != int(size) {
		return nil, false
	}
	codes, ok := m.lanes()
	if !ok {
		return nil, false
	}
	var vals []api.Cell
	for _, code := range codes {
		if code >= size {
			return nil, false
		}
		vals = append(vals, entries[code])
	}
	return vals, true
}

func (m *model) runs() ([]api.Cell, bool) {
	count, ok := m.number(4)
	if !ok || count > uint64(m.count) {
		return nil, false
	}
	var lengths []int
	last := 0
	for range count {
		end, ok := m.number(4)
		if !ok || int(end) <= last {
			return nil, false
		}
		lengths = append(lengths, int(end)-last)
		last = int(end)
	}
	entries, ok := m.list(int(count))
	if !ok || last != m.count || len(slices.Compact(slices.Clone(entries))) != int(count) {
		return nil, false
	}
	var vals []api.Cell
	for i, v := range entries {
		vals = append(vals, slices.Repeat([]api.Cell{v}, lengths[i])...)
	}
	return vals, true
}

func (m *model) offsets(base *big.Int) ([]api.Cell, bool) {
	lanes, ok := m.lanes()
	if !ok {
		return nil, false
	}
	var vals []api.Cell
	for _, lane := range lanes {
		sum := new(big.Int).Add(base, new(big.Int).SetUint64(lane))
		if !sum.IsInt64() {
			return nil, false
		}
		vals = append(vals, integer(sum.Int64()))
	}
	return vals, true
}

// modelNeed is the least w with 2^w >= d.
func modelNeed(d int) int {
	w := 0
	for 1<<w < d {
		w++
	}
	return w
}

func compareCells(a, b api.Cell) int {
	if a.Int != b.Int {
		if a.Int < b.Int {
			return -1
		}
		return 1
	}
	x, y := []byte(a.Str), []byte(b.Str)
	return slices.Compare(x, y)
}

// modelFits tells whether the values fit the codec, by the three conditions of 3.2.
func modelFits(cells []api.Cell, codec, width int) bool {
	vals := slices.DeleteFunc(slices.Clone(cells), func(c api.Cell) bool { return c.Null })
	slices.SortFunc(vals, compareCells)
	bound := new(big.Int).Lsh(big.NewInt(1), uint(width))
	switch {
	case codec == api.CodecDict:
		return len(slices.Compact(vals)) <= api.MaxDict
	case len(vals) == 0:
		return true
	case codec == api.CodecFrame:
		spread := big.NewInt(vals[len(vals)-1].Int)
		return spread.Sub(spread, big.NewInt(vals[0].Int)).Cmp(bound) < 0
	case codec == api.CodecPacked:
		return vals[0].Int >= 0 && big.NewInt(vals[len(vals)-1].Int).Cmp(bound) < 0
	}
	return true
}
