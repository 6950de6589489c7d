package kernel_test

import (
	"slices"
	"strings"
	"testing"

	"colscan/api"
	"colscan/codec"
	"colscan/kernel"
)

// checkFilterCode holds the code against the one that is due; with any other than ErrNone there is no pair.
func checkFilterCode(t *testing.T, kind, rows int, body []byte, leaf api.Node, want int) {
	t.Helper()
	pair, code := kernel.Filter(kind, rows, body, leaf)
	if code != want || code != api.ErrNone && len(pair.True)+len(pair.Unknown) != 0 {
		t.Errorf("Filter of kind %d, %d rows, body % x, op %d of %d literals: code %d, want %d",
			kind, rows, body[:min(len(body), 40)], leaf.Op, len(leaf.Args), code, want)
	}
}

func checkFoldCode(t *testing.T, kind, rows int, body []byte, sel []uint64, want int) {
	t.Helper()
	part, code := kernel.Fold(kind, rows, body, sel)
	if code != want || code != api.ErrNone && part != (api.Part{}) {
		t.Errorf("Fold of kind %d, %d rows, body % x, %d words: code %d, want %d", kind, rows, body[:min(len(body), 40)], len(sel), code, want)
	}
}

// wrongLeaves are well-typed for no kind, or not for the kind.
func wrongLeaves(kind int) []api.Node {
	one, other := integer(1), text("a")
	if kind == api.KindStr {
		one, other = other, one
	}
	var out []api.Node
	for _, op := range []int{0, -1, least, api.OpAnd, api.OpOr, api.OpNot, 13, 1 << 32, 1<<32 + 1, greatest} {
		out = append(out, leafOf(op), leafOf(op, one), leafOf(op, one, one))
	}
	for op := api.OpEq; op <= api.OpGe; op++ {
		out = append(out, leafOf(op), leafOf(op, one, one), leafOf(op, slices.Repeat([]api.Cell{one}, api.MaxArgs)...))
	}
	out = append(out, leafOf(api.OpBetween), leafOf(api.OpBetween, one), leafOf(api.OpBetween, one, one, one))
	out = append(out, leafOf(api.OpIsNull, one), leafOf(api.OpIsNull, null))
	out = append(out, leafOf(api.OpIn, slices.Repeat([]api.Cell{one}, api.MaxArgs+1)...))
	long := text(strings.Repeat("s", api.MaxStr+1))
	for _, bad := range []api.Cell{null, other, long, {Int: 1, Str: "a"}, {Null: true, Int: 1}, {Null: true, Str: "a"}} {
		for op := api.OpEq; op <= api.OpIn; op++ {
			out = append(out, leafOf(op, bad))
		}
		out = append(out, leafOf(api.OpBetween, bad, one), leafOf(api.OpBetween, one, bad), leafOf(api.OpIn, one, bad), leafOf(api.OpIn, bad, one))
		many := slices.Repeat([]api.Cell{one}, api.MaxArgs)
		many[api.MaxArgs-1] = bad
		out = append(out, leafOf(api.OpIn, many...))
	}
	return out
}

func rightLeaves(kind int) []api.Node {
	one := integer(1)
	if kind == api.KindStr {
		one = text(strings.Repeat("s", api.MaxStr))
	}
	// The cell that is 0 in every field is the integer 0 and the empty string.
	out := []api.Node{leafOf(api.OpIsNull), leafOf(api.OpBetween, one, api.Cell{}), leafOf(api.OpIn)}
	for op := api.OpEq; op <= api.OpIn; op++ {
		out = append(out, leafOf(op, one), leafOf(op, api.Cell{}))
	}
	return append(out, leafOf(api.OpIn, slices.Repeat([]api.Cell{one}, api.MaxArgs)...))
}

// twoRows is a valid body of the kind and two rows.
func twoRows(kind int) []byte {
	if kind == api.KindStr {
		return join([]byte{1, 0}, u64(1), u32(2), []byte("xy"))
	}
	return join([]byte{1, 0}, u64(1), u64(7))
}

func TestFilterRefusesLeaves(t *testing.T) {
	for _, kind := range []int{api.KindInt, api.KindStr} {
		for _, leaf := range wrongLeaves(kind) {
			checkFilterCode(t, kind, 2, twoRows(kind), leaf, api.ErrQuery)
			// A chunk of no rows, and one without values, ask for as much of the leaf.
			checkFilterCode(t, kind, 0, []byte{1, 0}, leaf, api.ErrQuery)
			checkFilterCode(t, kind, 2, join([]byte{1, 0}, u64(3)), leaf, api.ErrQuery)
		}
		for _, leaf := range rightLeaves(kind) {
			checkFilterCode(t, kind, 2, twoRows(kind), leaf, api.ErrNone)
			checkFilterCode(t, kind, 0, []byte{1, 0}, leaf, api.ErrNone)
		}
	}
}

func TestFilterRefusesInOrder(t *testing.T) {
	wrongRows := []int{-1, -2, least, api.MaxRows + 1, 1 << 32, 1<<32 + 2, greatest}
	for _, kind := range []int{api.KindInt, api.KindStr} {
		body := twoRows(kind)
		for _, leaf := range append(rightLeaves(kind), wrongLeaves(kind)...) {
			for _, b := range [][]byte{body, body[1:], nil} {
				for _, rows := range wrongRows {
					checkFilterCode(t, kind, rows, b, leaf, api.ErrInput)
				}
				for _, none := range []int{0, 3, -1, 1<<32 + 1, least, greatest} {
					checkFilterCode(t, none, 2, b, leaf, api.ErrInput)
				}
			}
			for _, b := range [][]byte{nil, body[1:], body[:len(body)-1], append(slices.Clone(body), 0)} {
				checkFilterCode(t, kind, 2, b, leaf, api.ErrMalformed)
			}
			checkFilterCode(t, kind, 1, body, leaf, api.ErrMalformed)
			checkFilterCode(t, kind, 3, body, leaf, api.ErrMalformed)
			checkFilterCode(t, api.KindInt+api.KindStr-kind, 2, body, leaf, api.ErrMalformed)
		}
	}
}

func TestMaxRowsMayBeMet(t *testing.T) {
	body := join([]byte{5, 0}, make([]byte, api.MaxRows/8))
	checkFilterCode(t, 1, api.MaxRows, body, leafOf(api.OpIsNull), api.ErrNone)
	checkFoldCode(t, 1, api.MaxRows, body, make([]uint64, api.MaxRows/64), api.ErrNone)
	body = join(body, u64(0))
	checkFilterCode(t, 1, api.MaxRows+1, body, leafOf(api.OpIsNull), api.ErrInput)
	checkFoldCode(t, 1, api.MaxRows+1, body, make([]uint64, api.MaxRows/64+1), api.ErrInput)
}

func TestFoldRefusesInOrder(t *testing.T) {
	for _, kind := range []int{api.KindInt, api.KindStr} {
		body := twoRows(kind)
		for _, b := range [][]byte{body, body[1:], nil} {
			for _, none := range []int{0, 3, -1, 1<<32 + 1, least, greatest} {
				checkFoldCode(t, none, 2, b, []uint64{1}, api.ErrInput)
			}
			for _, rows := range []int{-1, -64, least, api.MaxRows + 1, 1<<32 + 2, greatest} {
				checkFoldCode(t, kind, rows, b, nil, api.ErrInput)
				checkFoldCode(t, kind, rows, b, []uint64{1}, api.ErrInput)
			}
			for _, sel := range [][]uint64{nil, {4}, {1 << 63}, {full}, {1, 0}, {1, 1}} {
				checkFoldCode(t, kind, 2, b, sel, api.ErrInput)
			}
			checkFoldCode(t, kind, 0, b, []uint64{0}, api.ErrInput)
		}
		for _, sel := range [][]uint64{{0}, {1}, {2}, {3}} {
			checkFoldCode(t, kind, 2, body, sel, api.ErrNone)
			for _, b := range [][]byte{nil, body[1:], body[:len(body)-1], append(slices.Clone(body), 0)} {
				checkFoldCode(t, kind, 2, b, sel, api.ErrMalformed)
			}
			checkFoldCode(t, kind, 3, body, sel, api.ErrMalformed)
			checkFoldCode(t, api.KindInt+api.KindStr-kind, 2, body, sel, api.ErrMalformed)
		}
		checkFoldCode(t, kind, 64, join([]byte{1, 0}, u64(full)), []uint64{full}, api.ErrNone)
		checkFoldCode(t, kind, 63, join([]byte{1, 0}, u64(full>>1)), []uint64{full}, api.ErrInput)
	}
}

// spoilt gives the body cut short, lengthened, and with each of its bytes changed in some ways.
func spoilt(body []byte) [][]byte {
	out := [][]byte{append(slices.Clone(body), 0), append(slices.Clone(body), 0, 0, 0, 0, 0, 0, 0, 0)}
	for i := range body {
		out = append(out, body[:i])
		for _, change := range []byte{1, 2, 0x80, 0xFF} {
			other := slices.Clone(body)
			other[i] ^= change
			out = append(out, other)
		}
	}
	return out
}

// askAny asks a body that may be valid or not; what it stands for is told by Decode.
func askAny(t *testing.T, kind, rows int, body []byte, leaf api.Node) {
	t.Helper()
	cells, due := codec.Decode(kind, rows, body)
	sel := make([]bool, rows)
	for row := range sel {
		sel[row] = row%3 != 1
	}
	if due != api.ErrNone {
		checkFilterCode(t, kind, rows, body, leaf, due)
		checkFoldCode(t, kind, rows, body, bitmap(sel), due)
		return
	}
	c := chunkOf{"a changed body", kind, cells, body}
	checkFilter(t, c, leaf)
	checkFold(t, c, sel)
}

func TestBodiesThatAreSpoilt(t *testing.T) {
	for _, c := range otherBodies() {
		args := literalsFor(c)
		for i, body := range spoilt(c.body) {
			askAny(t, c.kind, len(c.cells), body, leafOf(api.OpEq+i%6, args[i%len(args)]))
			askAny(t, c.kind, len(c.cells), body, leafOf(api.OpIn, args...))
		}
	}
	for _, kind := range []int{api.KindInt, api.KindStr} {
		cells := withNulls(intColumn(20, 0))[1]
		if kind == api.KindStr {
			cells = withNulls(strColumn(20, 1))[1]
		}
		for _, c := range encodings(kind, cells) {
			args := literalsFor(c)
			for i, body := range spoilt(c.body) {
				askAny(t, kind, len(cells), body, leafOf(api.OpEq+i%6, args[i%len(args)]))
			}
			for _, rows := range []int{0, 1, 19, 21, 63, 64, 65} {
				askAny(t, kind, rows, c.body, leafOf(api.OpIsNull))
			}
		}
	}
}
