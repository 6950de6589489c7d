package scan

import (
	"colscan/api"
	"colscan/bitvec"
)

// isPair tells whether p is a pair for n rows.
func isPair(n int, p api.Pair) bool {
	// Rank refuses what is no bitmap of n bits, and an n that is out of range.
	if bitvec.Rank(p.True, n, n) < 0 || bitvec.Rank(p.Unknown, n, n) < 0 {
		return false
	}
	for k, word := range p.True {
		if word&p.Unknown[k] != 0 {
			return false
		}
	}
	return true
}

// both is a AND b.
func both(a api.Pair, b api.Pair) api.Pair {
	out := newPair(len(a.True))
	for k := range out.True {
		// What is FALSE in neither is TRUE, or UNKNOWN if one side is.
		open := (a.True[k] | a.Unknown[k]) & (b.True[k] | b.Unknown[k])
		out.True[k] = a.True[k] & b.True[k]
		out.Unknown[k] = open &^ out.True[k]
	}
	return out
}

// either is a OR b.
func either(a api.Pair, b api.Pair) api.Pair {
	out := newPair(len(a.True))
	for k := range out.True {
		out.True[k] = a.True[k] | b.True[k]
		out.Unknown[k] = (a.Unknown[k] | b.Unknown[k]) &^ out.True[k]
	}
	return out
}

// negation is NOT a, for n rows.
func negation(n int, a api.Pair) api.Pair {
	out := newPair(len(a.True))
	for k := range out.True {
		out.True[k] = a.True[k] | a.Unknown[k]
		out.Unknown[k] = a.Unknown[k]
	}
	// A bitmap lies as lanes of width 1 do: a row is FALSE where the lane is 0.
	out.True, _ = bitvec.Compare(out.True, 1, n, api.OpEq, 0)
	return out
}

func newPair(words int) api.Pair {
	return api.Pair{True: make([]uint64, words), Unknown: make([]uint64, words)}
}
