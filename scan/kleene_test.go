package scan_test

import (
	"slices"
	"testing"

	"colscan/api"
	"colscan/scan"
)

// pairOf sets each row to the truth value of its letter.
func pairOf(truths []string) api.Pair {
	yes, open := make([]bool, len(truths)), make([]bool, len(truths))
	for i, truth := range truths {
		yes[i], open[i] = truth == "T", truth == "U"
	}
	return api.Pair{True: bitmap(yes), Unknown: bitmap(open)}
}

func samePair(a, b api.Pair) bool {
	return slices.Equal(a.True, b.True) && slices.Equal(a.Unknown, b.Unknown)
}

func clonePair(p api.Pair) api.Pair {
	return api.Pair{True: slices.Clone(p.True), Unknown: slices.Clone(p.Unknown)}
}

// modelKleene joins row by row, by the tables.
func modelKleene(op int, a, b []string) []string {
	var out []string
	for i := range a {
		truth := notTable[a[i]]
		if op == api.OpAnd {
			truth = andTable[a[i]+b[i]]
		}
		if op == api.OpOr {
			truth = orTable[a[i]+b[i]]
		}
		out = append(out, truth)
	}
	return out
}

func checkKleene(t *testing.T, op int, a, b []string) {
	t.Helper()
	want := pairOf(modelKleene(op, a, b))
	got, ok := scan.Kleene(op, len(a), pairOf(a), pairOf(b))
	if !ok || !samePair(got, want) {
		t.Errorf("op %d of %d rows %v and %v: %v, %x, want %x", op, len(a), front(a), front(b), ok, got, want)
	}
}

func TestKleeneOfTheTables(t *testing.T) {
	a := []string{"T", "T", "T", "U", "U", "U", "F", "F", "F"}
	b := []string{"T", "U", "F", "T", "U", "F", "T", "U", "F"}
	for op, want := range map[int][]string{
		api.OpAnd: {"T", "U", "F", "U", "U", "F", "F", "F", "F"},
		api.OpOr:  {"T", "T", "T", "T", "U", "U", "T", "U", "F"},
		api.OpNot: {"F", "F", "F", "U", "U", "U", "T", "T", "T"},
	} {
		if got, ok := scan.Kleene(op, 9, pairOf(a), pairOf(b)); !ok || !samePair(got, pairOf(want)) {
			t.Errorf("op %d: %v, %b", op, ok, got)
		}
	}
}

func TestKleeneOfManyRows(t *testing.T) {
	d := &dice{5}
	for _, n := range []int{0, 1, 2, 63, 64, 65, 127, 128, 129, 1000, api.MaxRows - 1, api.MaxRows} {
		for range 4 {
			var a, b []string
			for range n {
				a = append(a, pick(d, []string{"T", "U", "F"}))
				b = append(b, pick(d, []string{"T", "U", "F"}))
			}
			for op := api.OpAnd; op <= api.OpNot; op++ {
				checkKleene(t, op, a, b)
			}
		}
		for _, x := range []string{"T", "U", "F"} {
			for _, y := range []string{"T", "U", "F"} {
				for op := api.OpAnd; op <= api.OpNot; op++ {
					checkKleene(t, op, slices.Repeat([]string{x}, n), slices.Repeat([]string{y}, n))
				}
			}
		}
	}
}

// wrongPairs are none for 70 rows.
func wrongPairs() map[string]api.Pair {
	zero := []uint64{0, 0}
	return map[string]api.Pair{
		"nothing": {}, "no Unknown": {True: zero}, "no True": {Unknown: zero}, "True is short": {True: zero[:1], Unknown: zero},
		"Unknown is short": {True: zero, Unknown: zero[:1]}, "True is long": {True: make([]uint64, 3), Unknown: zero},
		"Unknown is long": {True: zero, Unknown: make([]uint64, 3)}, "both are long": {True: make([]uint64, 3), Unknown: make([]uint64, 3)},
		"True behind the end": {True: []uint64{0, 1 << 6}, Unknown: zero}, "Unknown behind the end": {True: zero, Unknown: []uint64{0, 1 << 63}},
		"the first row in both": {True: []uint64{1, 0}, Unknown: []uint64{3, 0}}, "the last row in both": {True: []uint64{1, 1 << 5}, Unknown: []uint64{2, 1 << 5}},
	}
}

func refuseKleene(t *testing.T, name string, op, n int, a, b api.Pair) {
	t.Helper()
	if got, ok := scan.Kleene(op, n, a, b); ok || len(got.True)+len(got.Unknown) != 0 {
		t.Errorf("%s: op %d of %d rows: %v, %x", name, op, n, ok, got)
	}
}

func TestKleeneRefusesPairs(t *testing.T) {
	good := api.Pair{True: []uint64{1, 1 << 5}, Unknown: []uint64{2, 0}}
	for name, bad := range wrongPairs() {
		for op := api.OpAnd; op <= api.OpNot; op++ {
			refuseKleene(t, name, op, 70, bad, good)
			refuseKleene(t, name, op, 70, bad, bad)
		}
		refuseKleene(t, name, api.OpAnd, 70, good, bad)
		refuseKleene(t, name, api.OpOr, 70, good, bad)
		// NOT does not look at the second.
		want := api.Pair{True: []uint64{full - 3, 1<<5 - 1}, Unknown: []uint64{2, 0}}
		if got, ok := scan.Kleene(api.OpNot, 70, good, bad); !ok || !samePair(got, want) {
			t.Errorf("%s, not looked at: %v, %x", name, ok, got)
		}
	}
}

func TestKleeneRefusesOpsAndNumbers(t *testing.T) {
	two := api.Pair{True: []uint64{1}, Unknown: []uint64{2}}
	for _, op := range []int{least, -1, 0, 1, 2, 3, 4, 5, 6, 7, 8, 9, 13, 14, 1<<32 + 10, greatest} {
		refuseKleene(t, "an op", op, 2, two, two)
		refuseKleene(t, "an op without rows", op, 0, api.Pair{}, api.Pair{})
	}
	big := api.Pair{True: make([]uint64, 1025), Unknown: make([]uint64, 1025)}
	for op := api.OpAnd; op <= api.OpNot; op++ {
		for _, n := range []int{least, -64, -1, 65, api.MaxRows + 1, api.MaxRows + 64, 1 << 32, 1<<32 + 2, greatest} {
			refuseKleene(t, "rows", op, n, two, two)
			refuseKleene(t, "rows", op, n, big, big)
			refuseKleene(t, "rows", op, n, api.Pair{}, api.Pair{})
		}
		// For one row the second bit lies behind the end.
		refuseKleene(t, "one row", op, 1, two, two)
		if got, ok := scan.Kleene(op, 0, api.Pair{}, api.Pair{True: []uint64{}}); !ok || len(got.True)+len(got.Unknown) != 0 {
			t.Errorf("op %d of no rows: %v, %x", op, ok, got)
		}
	}
}
