package bitvec

import "colscan/api"

func isRelation(op int) bool {
	return op >= api.OpEq && op <= api.OpGe
}

// standsIn tells whether a stands in the relation op to b.
func standsIn(a uint64, op int, b uint64) bool {
	switch op {
	case api.OpEq:
		return a == b
	case api.OpNe:
		return a != b
	case api.OpLt:
		return a < b
	case api.OpLe:
		return a <= b
	case api.OpGt:
		return a > b
	}
	return a >= b
}

// compareWord has the top bit of each lane of a set that stands in the relation op to the lane of b at its
// place. tops has the top bit of every lane set.
func compareWord(a uint64, b uint64, tops uint64, op int) uint64 {
	switch op {
	case api.OpEq:
		return tops &^ unequalLanes(a, b, tops)
	case api.OpNe:
		return unequalLanes(a, b, tops)
	case api.OpLt:
		return lessLanes(a, b, tops)
	case api.OpLe:
		return tops &^ lessLanes(b, a, tops)
	case api.OpGt:
		return lessLanes(b, a, tops)
	}
	return tops &^ lessLanes(a, b, tops)
}

// lessLanes has the top bit of each lane of a set that is less than the lane of b at its place.
//
// With its top bit put in, a lane of a is never less than a lane of b that has lost its own, so one
// subtraction serves all lanes: no lane borrows from the next. What is left of the top bit tells how the bits
// below it compare, and that counts only where the two top bits are alike.
func lessLanes(a uint64, b uint64, tops uint64) uint64 {
	notLessBelow := (a | tops) - (b &^ tops)
	topLess := ^a & b
	topAlike := ^(a ^ b)
	return (topLess | topAlike&^notLessBelow) & tops
}

func unequalLanes(a uint64, b uint64, tops uint64) uint64 {
	return lessLanes(a, b, tops) | lessLanes(b, a, tops)
}
