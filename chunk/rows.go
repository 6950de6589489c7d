package chunk

import "colscan/api"

// EmptyRows cuts rows out of one array, each without room behind it: one that is lengthened moves away.
func EmptyRows(count int, columns int) [][]api.Cell {
	cells := make([]api.Cell, count*columns)
	rows := make([][]api.Cell, count)
	for i := range rows {
		rows[i] = cells[i*columns : (i+1)*columns : (i+1)*columns]
	}
	return rows
}
