package scan

import (
	"colscan/api"
	"colscan/format"
)

// The truth values in an order in which AND is the lesser of two, and OR the greater.
const (
	truthFalse = iota
	truthUnknown
	truthTrue
)

// truths is a set of truth values: the bit of that number is set for each.
type truths uint

func only(value int) truths {
	return 1 << uint(value)
}

func (s truths) has(value int) bool {
	return s&only(value) != 0
}

// joinTruths gives what a node gives for values out of a and, where it takes two, out of b.
func joinTruths(op int, a truths, b truths) truths {
	var out truths
	for x := truthFalse; x <= truthTrue; x++ {
		if !a.has(x) {
			continue
		}
		if op == api.OpNot {
			out |= only(truthTrue - x)
			continue
		}
		for y := truthFalse; y <= truthTrue; y++ {
			if b.has(y) {
				out |= only(joinTwo(op, x, y))
			}
		}
	}
	return out
}

func joinTwo(op int, x int, y int) int {
	if op == api.OpAnd {
		return min(x, y)
	}
	return max(x, y)
}

// isSkipped tells whether the zones of a group leave it impossible that the filter is TRUE.
func isSkipped(kinds []int, g api.Group, where []api.Node, sw api.Switches) bool {
	if len(where) == 0 {
		return false
	}
	ask := func(leaf api.Node) truths {
		zone := known(g.Chunks[leaf.Col].Zone, sw)
		return possible(kinds[leaf.Col], g.Rows, zone, leaf)
	}
	return !walk(where, ask, joinTruths).has(truthTrue)
}

// known is a zone without what the switches keep from use.
func known(z api.Zone, sw api.Switches) api.Zone {
	if !sw.Range {
		z.Range = false
	}
	if !sw.Bloom {
		z.Bloom = nil
	}
	return z
}

// possible is what the zone of a chunk of so many rows leaves possible for a leaf.
func possible(kind int, rows int, z api.Zone, leaf api.Node) truths {
	noNull := z.Range && z.Nulls == 0
	allNull := z.Range && z.Nulls == rows
	var out truths
	if leaf.Op == api.OpIsNull {
		if !noNull {
			out |= only(truthTrue)
		}
		if !allNull {
			out |= only(truthFalse)
		}
		return out
	}
	if !noNull {
		out |= only(truthUnknown)
	}
	if !allNull && !isNever(kind, z, leaf) {
		out |= only(truthTrue)
	}
	if !allNull && !isAlways(kind, z, leaf) {
		out |= only(truthFalse)
	}
	return out
}

// isNever tells whether a zone says that the leaf is TRUE for no value of its chunk. Where it says that all rows are
// NULL, it has no bounds and must not be asked.
func isNever(kind int, z api.Zone, leaf api.Node) bool {
	if z.Range && neverBetween(z.Min, z.Max, leaf) {
		return true
	}
	return (leaf.Op == api.OpEq || leaf.Op == api.OpIn) && lacks(kind, z, leaf.Args)
}

// isAlways tells whether a zone says that the leaf is TRUE for each value of its chunk. It is asked as isNever is.
func isAlways(kind int, z api.Zone, leaf api.Node) bool {
	if z.Range && alwaysBetween(z.Min, z.Max, leaf) {
		return true
	}
	return leaf.Op == api.OpNe && lacks(kind, z, leaf.Args)
}

// lacks tells whether a zone has a filter that holds none of the literals.
func lacks(kind int, z api.Zone, literals []api.Cell) bool {
	for _, literal := range literals {
		if format.BloomHas(z.Bloom, z.Hashes, kind, literal) {
			return false
		}
	}
	return len(z.Bloom) > 0
}
