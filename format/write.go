package format

import (
	"colscan/api"
	"colscan/chunk"
	"colscan/codec"
)

// isTable tells whether a table is in order.
func isTable(t api.Table) bool {
	if len(t.Kinds) < 1 || len(t.Kinds) > api.MaxCols || !areKinds(t.Kinds) || len(t.Rows) > api.MaxRows {
		return false
	}
	for _, row := range t.Rows {
		if !isRow(t.Kinds, row) {
			return false
		}
	}
	return true
}

func isRow(kinds []int, row []api.Cell) bool {
	if len(row) != len(kinds) {
		return false
	}
	for col, c := range row {
		if !chunk.OfKind(kinds[col], c) {
			return false
		}
	}
	return true
}

// arePlans tells whether the groups are in order for a table that is.
func arePlans(t api.Table, groups []api.GroupPlan) bool {
	if len(groups) > api.MaxGroups {
		return false
	}
	// Counted down, so that no sum of rows leaves 64 bits.
	left := len(t.Rows)
	for _, g := range groups {
		if g.Rows < 0 || g.Rows > left || !isGroupPlan(t.Kinds, g) {
			return false
		}
		left -= g.Rows
	}
	return left == 0
}

func isGroupPlan(kinds []int, g api.GroupPlan) bool {
	if len(g.Plans) != len(kinds) {
		return false
	}
	for col, plan := range g.Plans {
		if !isPlan(kinds[col], plan) {
			return false
		}
	}
	return true
}

func isPlan(kind int, p api.Plan) bool {
	return chunk.IsCodec(kind, p.Codec) && chunk.IsWidth(p.Codec, p.Width) && isFilterOrNone(p.Bloom, p.Hashes)
}

// writeSection makes the data of a group out of its rows.
func writeSection(kinds []int, rows [][]api.Cell, plans []api.Plan) (section, int) {
	s := section{rows: len(rows)}
	for col, plan := range plans {
		cells := column(rows, col)
		body, code := codec.Encode(kinds[col], cells, plan.Codec, plan.Width)
		if code != api.ErrNone {
			return section{}, code
		}
		record := zoneRecord(kinds[col], len(cells), zoneOf(kinds[col], cells, plan))
		s.pieces = append(s.pieces, piece{body: body, record: record})
	}
	return s, api.ErrNone
}

func column(rows [][]api.Cell, col int) []api.Cell {
	cells := make([]api.Cell, len(rows))
	for i, row := range rows {
		cells[i] = row[col]
	}
	return cells
}
