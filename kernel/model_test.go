package kernel_test

import (
	"bytes"
	"math/big"

	"colscan/api"
)

// compareValues tells how a stands to b, two values of one kind: below 0, 0 or above 0.
func compareValues(a, b api.Cell) int {
	if a.Int != b.Int {
		return big.NewInt(a.Int).Cmp(big.NewInt(b.Int))
	}
	return bytes.Compare([]byte(a.Str), []byte(b.Str))
}

// modelHolds tells whether the leaf is TRUE for a value, as the table of chapter 5 says.
func modelHolds(leaf api.Node, v api.Cell) bool {
	switch leaf.Op {
	case api.OpIn:
		for _, arg := range leaf.Args {
			if compareValues(v, arg) == 0 {
				return true
			}
		}
		return false
	case api.OpBetween:
		return !(compareValues(v, leaf.Args[0]) < 0) && !(compareValues(v, leaf.Args[1]) > 0)
	case api.OpIsNull:
		return false
	}
	sign := compareValues(v, leaf.Args[0])
	return map[int]bool{
		api.OpEq: sign == 0, api.OpNe: sign != 0, api.OpLt: sign < 0, api.OpLe: sign <= 0, api.OpGt: sign > 0, api.OpGe: sign >= 0,
	}[leaf.Op]
}

// modelPair tells row by row what the leaf is.
func modelPair(cells []api.Cell, leaf api.Node) api.Pair {
	yes, open := make([]bool, len(cells)), make([]bool, len(cells))
	for i, c := range cells {
		switch {
		case !c.Null:
			yes[i] = modelHolds(leaf, c)
		case leaf.Op == api.OpIsNull:
			yes[i] = true
		default:
			open[i] = true
		}
	}
	return api.Pair{True: bitmap(yes), Unknown: bitmap(open)}
}

// split128 gives a number as High and Low, two's complement of 128 bits.
func split128(n *big.Int) (int64, uint64) {
	room := new(big.Int).Lsh(big.NewInt(1), 128)
	// Mod is never negative.
	n = new(big.Int).Mod(n, room)
	low := new(big.Int).And(n, new(big.Int).SetUint64(full)).Uint64()
	return int64(new(big.Int).Rsh(n, 64).Uint64()), low
}

// join128 is the number that High and Low stand for.
func join128(high int64, low uint64) *big.Int {
	n := new(big.Int).Lsh(big.NewInt(high), 64)
	return n.Add(n, new(big.Int).SetUint64(low))
}

// modelPart tells of the values among the cells whose flags are true.
func modelPart(cells []api.Cell, flags []bool) api.Part {
	var part api.Part
	sum := new(big.Int)
	for i, c := range cells {
		if c.Null || !flags[i] {
			continue
		}
		if part.Count == 0 || compareValues(c, part.Min) < 0 {
			part.Min = c
		}
		if part.Count == 0 || compareValues(c, part.Max) > 0 {
			part.Max = c
		}
		part.Count++
		sum.Add(sum, big.NewInt(c.Int))
	}
	part.High, part.Low = split128(sum)
	return part
}
