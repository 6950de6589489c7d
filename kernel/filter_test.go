package kernel_test

import (
	"slices"
	"strings"
	"testing"

	"colscan/api"
	"colscan/codec"
	"colscan/kernel"
)

func checkPair(t *testing.T, c chunkOf, leaf api.Node, want api.Pair) {
	t.Helper()
	got, code := kernel.Filter(c.kind, len(c.cells), c.body, leaf)
	if code != api.ErrNone || !slices.Equal(got.True, want.True) || !slices.Equal(got.Unknown, want.Unknown) {
		t.Fatalf("%s, codec %d, width %d, %d cells %v, op %d of %v: code %d, %#x, want %#x", c.name, c.body[0], c.body[1],
			len(c.cells), front(c.cells), leaf.Op, front(leaf.Args), code, front(got.True), front(want.True))
	}
}

func checkFilter(t *testing.T, c chunkOf, leaf api.Node) {
	t.Helper()
	checkPair(t, c, leaf, modelPair(c.cells, leaf))
}

// laneEdges are the values of the greatest lane, and of the one beyond it, of a chunk of lanes.
func laneEdges(c chunkOf) []api.Cell {
	var base, width uint64
	switch c.body[0] {
	case api.CodecFrame:
		at := 2 + (len(c.cells)+63)/64*8
		for i, b := range c.body[at : at+8] {
			base |= uint64(b) << (8 * i)
		}
		fallthrough
	case api.CodecPacked:
		width = uint64(c.body[1])
	default:
		return nil
	}
	// Where these leave 64 bits they wrap, and are literals as good as any.
	return integers(int64(base), int64(base-1), int64(base+1<<width-1), int64(base+1<<width))
}

// literalsFor are values of the chunk, their neighbours, and the edges of all there are.
func literalsFor(c chunkOf) []api.Cell {
	out := append(integers(0, least, greatest), laneEdges(c)...)
	if c.kind == api.KindStr {
		out = texts("", "\x00", "\xff\xff", strings.Repeat("\xff", api.MaxStr), "b")
	}
	taken := 0
	for _, v := range c.cells {
		if v.Null || slices.Contains(out, v) || taken == 3 {
			continue
		}
		taken++
		if c.kind == api.KindStr {
			out = append(out, v, text(v.Str+"\x00"), text(v.Str[:max(0, len(v.Str)-1)]))
		} else {
			out = append(out, v, integer(v.Int-1), integer(v.Int+1))
		}
	}
	return out
}

func TestFilterTellsEachRowForEachRelation(t *testing.T) {
	for _, c := range allBodies() {
		for _, a := range literalsFor(c) {
			for op := api.OpEq; op <= api.OpGe; op++ {
				checkFilter(t, c, leafOf(op, a))
			}
		}
	}
}

func TestFilterTellsEachRowForBetween(t *testing.T) {
	for _, c := range allBodies() {
		literals := literalsFor(c)
		for _, a := range literals {
			for _, b := range literals {
				checkFilter(t, c, leafOf(api.OpBetween, a, b))
			}
		}
	}
}

func TestFilterTellsEachRowForIn(t *testing.T) {
	for _, c := range allBodies() {
		literals := literalsFor(c)
		checkFilter(t, c, leafOf(api.OpIn))
		checkFilter(t, c, leafOf(api.OpIn, literals...))
		checkFilter(t, c, leafOf(api.OpIn, append(slices.Clone(literals), literals...)...))
		for i := range literals {
			checkFilter(t, c, leafOf(api.OpIn, literals[i]))
			checkFilter(t, c, leafOf(api.OpIn, literals[i], literals[0], literals[i]))
			checkFilter(t, c, leafOf(api.OpIn, literals[i:]...))
		}
	}
}

func TestFilterTellsNulls(t *testing.T) {
	for _, c := range allBodies() {
		checkFilter(t, c, leafOf(api.OpIsNull))
	}
	body := join([]byte{1, 0}, u64(2), u64(5, 7))
	c := chunkOf{"NULL in the middle", 1, []api.Cell{integer(5), null, integer(7)}, body}
	checkPair(t, c, leafOf(api.OpIsNull), api.Pair{True: []uint64{2}, Unknown: []uint64{0}})
	checkPair(t, c, leafOf(api.OpNe, integer(5)), api.Pair{True: []uint64{4}, Unknown: []uint64{2}})
	checkPair(t, c, leafOf(api.OpIn), api.Pair{True: []uint64{0}, Unknown: []uint64{2}})
	checkPair(t, c, leafOf(api.OpBetween, integer(9), integer(1)), api.Pair{True: []uint64{0}, Unknown: []uint64{2}})
	// The field that a NULL does not use is 0, and 0 is a value too.
	checkPair(t, c, leafOf(api.OpEq, integer(0)), api.Pair{True: []uint64{0}, Unknown: []uint64{2}})
	checkPair(t, c, leafOf(api.OpLt, integer(6)), api.Pair{True: []uint64{1}, Unknown: []uint64{2}})
}

// trueRows asks a chunk of three rows without NULLs, and writes a 1 for each row that is TRUE.
func trueRows(t *testing.T, kind int, body []byte, leaf api.Node) string {
	t.Helper()
	pair, code := kernel.Filter(kind, 3, body, leaf)
	if code != api.ErrNone || len(pair.True) != 1 || !slices.Equal(pair.Unknown, []uint64{0}) {
		t.Fatalf("op %d of %v: code %d, %v", leaf.Op, leaf.Args, code, pair)
	}
	out := ""
	for row := range 3 {
		out += string(rune('0' + pair.True[0]>>row&1))
	}
	return out
}

// checkRelations asks for the six relations to the literal; answers is what they give, OpEq first.
func checkRelations(t *testing.T, kind int, body []byte, literal api.Cell, answers string) {
	t.Helper()
	for i, want := range strings.Fields(answers) {
		if got := trueRows(t, kind, body, leafOf(api.OpEq+i, literal)); got != want {
			t.Errorf("op %d of %v: %s, want %s", api.OpEq+i, literal, got, want)
		}
	}
}

func TestLiteralsOutsideAFrame(t *testing.T) {
	// Base 100, lanes of width 4: 0, 7, 15.
	body := join([]byte{4, 4}, u64(0, 100), u64(0|7<<4|15<<8))
	for literal, answers := range map[int64]string{
		100:  "100 011 000 100 011 111",
		107:  "010 101 100 110 001 011",
		108:  "000 111 110 110 001 001",
		115:  "001 110 110 111 000 001",
		99:   "000 111 000 000 111 111",
		-100: "000 111 000 000 111 111",
		// Its distance from the base, taken without care, is a great number, or lane 7.
		least:       "000 111 000 000 111 111",
		100 - 9:     "000 111 000 000 111 111",
		107 - 1<<32: "000 111 000 000 111 111",
		116:         "000 111 111 111 000 000",
		107 + 16:    "000 111 111 111 000 000",
		107 + 1<<32: "000 111 111 111 000 000",
		greatest:    "000 111 111 111 000 000",
	} {
		checkRelations(t, api.KindInt, body, integer(literal), answers)
	}
}

func TestLiteralsOutsideAFrameThatSpansAllIntegers(t *testing.T) {
	// From the least integer: lanes 0, 2^63 and 2^64 - 1.
	body := join([]byte{4, 64}, u64(0, 1<<63, 0, 1<<63, full))
	checkRelations(t, api.KindInt, body, integer(least), "100 011 000 100 011 111")
	checkRelations(t, api.KindInt, body, integer(-1), "000 111 100 100 011 011")
	checkRelations(t, api.KindInt, body, integer(1), "000 111 110 110 001 001")
	checkRelations(t, api.KindInt, body, integer(greatest), "001 110 110 111 000 001")
}

func TestLiteralsOutsideAPacking(t *testing.T) {
	body := join([]byte{5, 3}, u64(0), u64(0|3<<3|7<<6))
	checkRelations(t, api.KindInt, body, integer(-1), "000 111 000 000 111 111")
	checkRelations(t, api.KindInt, body, integer(-5), "000 111 000 000 111 111")
	checkRelations(t, api.KindInt, body, integer(least), "000 111 000 000 111 111")
	checkRelations(t, api.KindInt, body, integer(3), "010 101 100 110 001 011")
	checkRelations(t, api.KindInt, body, integer(7), "001 110 110 111 000 001")
	checkRelations(t, api.KindInt, body, integer(8), "000 111 111 111 000 000")
	checkRelations(t, api.KindInt, body, integer(11), "000 111 111 111 000 000")
	checkRelations(t, api.KindInt, body, integer(greatest), "000 111 111 111 000 000")
}

func TestLiteralsBetweenEntriesOfADictionary(t *testing.T) {
	// Entries b, d, f, h; the rows hold b, d and h.
	body := join([]byte{2, 2}, u64(0), u32(4), u32(1, 2, 3, 4), []byte("bdfh"), u64(0|1<<2|3<<4))
	for literal, answers := range map[string]string{
		"":   "000 111 000 000 111 111",
		"a":  "000 111 000 000 111 111",
		"b":  "100 011 000 100 011 111",
		"b-": "000 111 100 100 011 011",
		"c":  "000 111 100 100 011 011",
		"d":  "010 101 100 110 001 011",
		"e":  "000 111 110 110 001 001",
		// An entry that no row holds.
		"f":     "000 111 110 110 001 001",
		"g":     "000 111 110 110 001 001",
		"h":     "001 110 110 111 000 001",
		"h\x00": "000 111 111 111 000 000",
		"\xff":  "000 111 111 111 000 000",
	} {
		checkRelations(t, api.KindStr, body, text(literal), answers)
	}
	for want, args := range map[string][]string{"000": {"c", "c"}, "010": {"c", "g"}, "011": {"c", "z"}, "110": {"a", "f"}, "111": {"", "z"}} {
		if got := trueRows(t, api.KindStr, body, leafOf(api.OpBetween, texts(args...)...)); got != want {
			t.Errorf("between %q: %s, want %s", args, got, want)
		}
		if got := trueRows(t, api.KindStr, body, leafOf(api.OpBetween, text(args[1]), text(args[0]))); args[0] != args[1] && got != "000" {
			t.Errorf("between %q, turned: %s", args, got)
		}
	}
}

func TestAFullDictionary(t *testing.T) {
	var cells []api.Cell
	for i := range api.MaxDict {
		cells = append(cells, integer(int64(2*i)))
	}
	for _, list := range withNulls(cells) {
		for _, c := range encodings(api.KindInt, list) {
			// The literal beyond the last entry is carried over into 256, which the codes of 8 bits do not hold.
			for _, v := range []int64{-1, 0, 1, 2, 255, 256, 257, 509, 510, 511, 512} {
				for op := api.OpEq; op <= api.OpGe; op++ {
					checkFilter(t, c, leafOf(op, integer(v)))
				}
				checkFilter(t, c, leafOf(api.OpBetween, integer(1), integer(v)))
				checkFilter(t, c, leafOf(api.OpIn, integer(v), integer(v+1), integer(7)))
			}
		}
	}
}

func TestFilterOfMaxRows(t *testing.T) {
	var args []api.Cell
	for _, x := range manyNumbers(api.MaxArgs, 5) {
		args = append(args, integer(int64(x%400)-50))
	}
	cells := make([]api.Cell, api.MaxRows)
	for i, x := range manyNumbers(api.MaxRows, 9) {
		cells[i] = integer(int64(x>>8%200) + int64(i/6000))
		if x%10 == 0 {
			cells[i] = null
		}
	}
	chunks := encodings(api.KindInt, cells)
	for _, leaf := range []api.Node{
		leafOf(api.OpEq, integer(77)), leafOf(api.OpGt, integer(100)), leafOf(api.OpBetween, integer(20), integer(150)),
		leafOf(api.OpIn, args...), leafOf(api.OpIsNull),
	} {
		want := modelPair(cells, leaf)
		for _, c := range chunks {
			checkPair(t, c, leaf, want)
		}
	}
}

func TestFilterOfARunOfMaxRows(t *testing.T) {
	body := join([]byte{3, 0}, make([]byte, api.MaxRows/8), u32(2), u32(api.MaxRows-1, api.MaxRows), u64(4, 9))
	wantFirst := slices.Repeat([]uint64{full}, api.MaxRows/64)
	wantFirst[api.MaxRows/64-1] = full >> 1
	wantLast := make([]uint64, api.MaxRows/64)
	wantLast[api.MaxRows/64-1] = 1 << 63
	for v, want := range map[int64][]uint64{4: wantFirst, 9: wantLast, 5: make([]uint64, api.MaxRows/64)} {
		pair, code := kernel.Filter(api.KindInt, api.MaxRows, body, leafOf(api.OpEq, integer(v)))
		if code != api.ErrNone || !slices.Equal(pair.True, want) || !slices.Equal(pair.Unknown, make([]uint64, api.MaxRows/64)) {
			t.Errorf("rows equal to %d: code %d", v, code)
		}
	}
}

func TestRunsBeginAndEndAnywhere(t *testing.T) {
	for _, lengths := range [][]int{{1, 1, 1}, {63, 1, 64}, {64, 64}, {1, 126, 1}, {60, 8, 200, 3}, {65, 62, 2}, {128}} {
		var cells []api.Cell
		for i, length := range lengths {
			cells = append(cells, slices.Repeat(integers(int64(i%2)), length)...)
		}
		for _, list := range withNulls(cells) {
			body, _ := codec.Encode(api.KindInt, list, api.CodecRuns, 0)
			c := chunkOf{"runs", api.KindInt, list, body}
			for v := range int64(3) {
				checkFilter(t, c, leafOf(api.OpEq, integer(v)))
				checkFilter(t, c, leafOf(api.OpLt, integer(v)))
			}
		}
	}
}

func TestStringsAreOrderedBytewise(t *testing.T) {
	// Ascending; some are no UTF-8, and some begin with the one before.
	sorted := texts("", "\x00", "\x00\x00", "A", "Z", "a", "a\x00", "ab", "b", "\x7f", "\x80", "\xc3\xa4", "\xe2\x82\xac", "\xff", "\xff\xff")
	for _, c := range encodings(api.KindStr, sorted) {
		for i, literal := range sorted {
			below := uint64(1)<<i - 1
			all := uint64(1)<<len(sorted) - 1
			for op, want := range map[int]uint64{
				api.OpLt: below, api.OpGe: all &^ below, api.OpEq: 1 << i, api.OpNe: all &^ (1 << i), api.OpLe: below | 1<<i, api.OpGt: all &^ below &^ (1 << i),
			} {
				checkPair(t, c, leafOf(op, literal), api.Pair{True: []uint64{want}, Unknown: []uint64{0}})
			}
		}
	}
}

func TestFilterLooksNotAtCol(t *testing.T) {
	body := join([]byte{4, 2}, u64(2, 5, 8))
	c := chunkOf{"the document's example", 1, []api.Cell{integer(5), null, integer(7)}, body}
	for _, col := range []int{0, 1, -1, api.MaxCols, least, greatest} {
		leaf := api.Node{Op: api.OpGt, Col: col, Args: integers(5)}
		checkPair(t, c, leaf, api.Pair{True: []uint64{4}, Unknown: []uint64{2}})
		if _, code := kernel.Filter(1, 3, body, api.Node{Op: api.OpGt, Col: col}); code != api.ErrQuery {
			t.Errorf("a leaf of column %d without a literal: code %d", col, code)
		}
	}
}
