package chunk

import (
	"colscan/api"
	"colscan/wire"
)

// Strs is the kind of the strings.
type Strs struct{}

// Number is KindStr.
func (Strs) Number() int {
	return api.KindStr
}

// Cell is the string cell.
func (Strs) Cell(v string) api.Cell {
	return api.Cell{Str: v}
}

// Value is the cell's string.
func (Strs) Value(c api.Cell) string {
	return c.Str
}

// AppendList appends the ends of the strings, and then their text.
func (Strs) AppendList(b []byte, vals []string) []byte {
	end := 0
	for _, v := range vals {
		end += len(v)
		b = wire.AppendU32(b, end)
	}
	for _, v := range vals {
		b = append(b, v...)
	}
	return b
}

func (Strs) readList(r *wire.Reader, count int) ([]string, bool) {
	ends := r.U32s(count)
	size, ok := textSize(ends)
	if !ok {
		return nil, false
	}
	// One copy of the whole text: the strings are cut out of it, and nothing can write into them.
	text := string(r.Take(size))
	if r.Short() {
		return nil, false
	}
	vals := make([]string, len(ends))
	start := 0
	for i, end := range ends {
		vals[i] = text[start:end]
		start = end
	}
	return vals, true
}

// textSize is the last of the ends of strings, or 0 if there is none. False: they are not in order.
func textSize(ends []int) (int, bool) {
	last := 0
	for _, end := range ends {
		if end < last || end-last > api.MaxStr {
			return 0, false
		}
		last = end
	}
	return last, true
}
