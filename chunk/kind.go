package chunk

import (
	"math/bits"

	"colscan/api"
	"colscan/wire"
)

// Value is the type of a chunk's values.
type Value interface {
	int64 | string
}

// Kind is what the values of one kind have of their own: how a cell holds one, and how a list of them lies in
// bytes.
type Kind[V Value] interface {
	// Number is the kind's number in package api.
	Number() int
	// Cell is the cell that holds v.
	Cell(v V) api.Cell
	// Value is what a cell of the kind that is not NULL holds.
	Value(c api.Cell) V
	// AppendList appends the list of these values.
	AppendList(b []byte, vals []V) []byte
	// readList reads a list of so many values, and refuses what is none.
	readList(r *wire.Reader, count int) ([]V, bool)
}

// IsKind tells whether a kind is valid.
func IsKind(kind int) bool {
	return kind == api.KindInt || kind == api.KindStr
}

// IsRows tells whether a chunk may have so many rows.
func IsRows(rows int) bool {
	return rows >= 0 && rows <= api.MaxRows
}

// OfKind tells whether a cell is of the kind.
func OfKind(kind int, c api.Cell) bool {
	if c.Null {
		return IsKind(kind) && c == api.Cell{Null: true}
	}
	switch kind {
	case api.KindInt:
		return c.Str == ""
	case api.KindStr:
		return c.Int == 0 && len(c.Str) <= api.MaxStr
	}
	return false
}

// IsValue tells whether a cell is a value of the kind: of the kind, and not NULL.
func IsValue(kind int, c api.Cell) bool {
	return !c.Null && OfKind(kind, c)
}

// Less holds two cells against each other; whether they are NULL is not looked at. So it is the order of the values
// of one kind: the field that their kind does not use is alike in both.
func Less(a api.Cell, b api.Cell) bool {
	return a.Int < b.Int || a.Int == b.Int && a.Str < b.Str
}

// AreCells tells whether a chunk of the kind may hold these cells.
func AreCells(kind int, cells []api.Cell) bool {
	if !IsKind(kind) || !IsRows(len(cells)) {
		return false
	}
	for _, c := range cells {
		if !OfKind(kind, c) {
			return false
		}
	}
	return true
}

// IsCodec tells whether a codec is for the kind.
func IsCodec(kind int, codec int) bool {
	switch codec {
	case api.CodecPlain, api.CodecDict, api.CodecRuns:
		return IsKind(kind)
	case api.CodecFrame, api.CodecPacked:
		return kind == api.KindInt
	}
	return false
}

// IsWidth tells whether a width may be chosen for a codec; the others fix theirs.
func IsWidth(codec int, width int) bool {
	if codec == api.CodecFrame || codec == api.CodecPacked {
		return width >= 0 && width <= 64
	}
	return width == 0
}

// Need is the least width in which the numbers below d can be told apart.
func Need(d int) int {
	if d < 2 {
		return 0
	}
	return bits.Len(uint(d - 1))
}
