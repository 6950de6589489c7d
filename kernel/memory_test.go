package kernel_test

import (
	"bytes"
	"runtime"
	"slices"
	"strings"
	"testing"

	"colscan/api"
	"colscan/codec"
	"colscan/kernel"
)

// within gives a copy of the list that is cut out of a longer one, and the longer one.
func within[E any](list []E, behind E) (cut, array []E) {
	array = append(slices.Clone(list), slices.Repeat([]E{behind}, 70)...)
	return array[:len(list)], array
}

// overwrite appends to a list, by one entry and by many, and writes into all of it.
func overwrite[E any](list []E, mark E) {
	_ = append(list, mark)
	_ = append(list, slices.Repeat([]E{mark}, len(list)+100)...)
	for i := range list {
		list[i] = mark
	}
}

func clonePair(p api.Pair) api.Pair {
	return api.Pair{True: slices.Clone(p.True), Unknown: slices.Clone(p.Unknown)}
}

func samePair(a, b api.Pair) bool {
	return slices.Equal(a.True, b.True) && slices.Equal(a.Unknown, b.Unknown)
}

// memoryBodies are a few of each codec, with NULLs and without, longer than a word and empty.
func memoryBodies() []chunkOf {
	out := otherBodies()
	for _, n := range []int{0, 3, 70} {
		for _, cells := range withNulls(intColumn(n, 0)) {
			out = append(out, encodings(api.KindInt, cells)...)
		}
		for _, cells := range withNulls(strColumn(n, 0)) {
			out = append(out, encodings(api.KindStr, cells)...)
		}
	}
	return out
}

// leavesFor are leaves of every op for the chunk; their literals are not in order.
func leavesFor(c chunkOf) []api.Node {
	literals := literalsFor(c)
	slices.Reverse(literals)
	leaves := []api.Node{leafOf(api.OpIsNull), leafOf(api.OpIn, append(literals, literals...)...), leafOf(api.OpBetween, literals[0], literals[1])}
	for op := api.OpEq; op <= api.OpIn; op++ {
		leaves = append(leaves, leafOf(op, literals[0]))
	}
	return leaves
}

func checkFilterMemory(t *testing.T, c chunkOf, leaf api.Node) {
	t.Helper()
	body, bodyArray := within(c.body, 0xAA)
	args, argArray := within(leaf.Args, text("behind"))
	keptBody, keptArgs := slices.Clone(bodyArray), slices.Clone(argArray)
	node := api.Node{Op: leaf.Op, Col: leaf.Col, Args: args}
	ask := func() api.Pair {
		pair, code := kernel.Filter(c.kind, len(c.cells), body, node)
		if code != api.ErrNone {
			t.Fatalf("%s: code %d", c.name, code)
		}
		return pair
	}
	first, second, other := ask(), ask(), ask()
	want := clonePair(first)
	overwrite(first.True, 0xEEEE)
	if !slices.Equal(first.Unknown, want.Unknown) {
		t.Errorf("%s, op %d: Unknown follows True", c.name, leaf.Op)
	}
	overwrite(second.Unknown, 0xEEEE)
	if !slices.Equal(second.True, want.True) {
		t.Errorf("%s, op %d: True follows Unknown", c.name, leaf.Op)
	}
	if !bytes.Equal(bodyArray, keptBody) || !slices.Equal(argArray, keptArgs) {
		t.Errorf("%s, op %d: the arguments, or what lies behind them, changed", c.name, leaf.Op)
	}
	if !samePair(other, want) || !samePair(ask(), want) {
		t.Errorf("%s, op %d: two answers share memory", c.name, leaf.Op)
	}
	overwrite(bodyArray, 0xEE)
	overwrite(argArray, text("spoilt"))
	if !samePair(other, want) {
		t.Errorf("%s, op %d: the answer follows the arguments", c.name, leaf.Op)
	}
}

func TestPairsAreNewMemory(t *testing.T) {
	for _, c := range memoryBodies() {
		for _, leaf := range leavesFor(c) {
			checkFilterMemory(t, c, leaf)
		}
	}
}

func TestFoldLeavesItsArguments(t *testing.T) {
	for _, c := range memoryBodies() {
		for _, flags := range selections(len(c.cells)) {
			body, bodyArray := within(c.body, 0xAA)
			sel, selArray := within(bitmap(flags), 0xAAAA)
			keptBody, keptSel := slices.Clone(bodyArray), slices.Clone(selArray)
			want := modelPart(c.cells, flags)
			first, code := kernel.Fold(c.kind, len(c.cells), body, sel)
			second, _ := kernel.Fold(c.kind, len(c.cells), body, sel)
			if code != api.ErrNone || first != want || second != want {
				t.Fatalf("%s: code %d, %v and %v, want %v", c.name, code, first, second, want)
			}
			if !bytes.Equal(bodyArray, keptBody) || !slices.Equal(selArray, keptSel) {
				t.Errorf("%s: the arguments, or what lies behind them, changed", c.name)
			}
			overwrite(bodyArray, 0xEE)
			overwrite(selArray, 0xEE)
			if first != want {
				t.Errorf("%s: the part %v follows the body; it was %v", c.name, first, want)
			}
		}
	}
}

func TestRefusedCallsLeaveTheirArguments(t *testing.T) {
	for _, c := range memoryBodies() {
		body, bodyArray := within(c.body, 0xAA)
		args, argArray := within(append(literalsFor(c), null), text("behind"))
		sel, selArray := within(bitmap(make([]bool, len(c.cells))), 0xAAAA)
		keptBody, keptArgs, keptSel := slices.Clone(bodyArray), slices.Clone(argArray), slices.Clone(selArray)
		for _, kind := range []int{0, 1, 2} {
			for _, rows := range []int{-1, len(c.cells), len(c.cells) + 1} {
				kernel.Filter(kind, rows, body, api.Node{Op: api.OpIn, Args: args})
				kernel.Filter(kind, rows, body[:len(body)-1], api.Node{Op: api.OpEq, Args: args[:1]})
				kernel.Fold(kind, rows, body[:len(body)-1], sel)
				kernel.Fold(kind, rows, body, sel[:len(sel)/2])
			}
		}
		if !bytes.Equal(bodyArray, keptBody) || !slices.Equal(argArray, keptArgs) || !slices.Equal(selArray, keptSel) {
			t.Errorf("%s: a refused call wrote into its arguments", c.name)
		}
	}
}

// allocated is how many bytes a call takes from the heap.
func allocated(call func()) uint64 {
	var before, after runtime.MemStats
	runtime.ReadMemStats(&before)
	call()
	runtime.ReadMemStats(&after)
	return after.TotalAlloc - before.TotalAlloc
}

// A list of all cells takes 40 bytes a row, and has no room within the bound.
func TestChunksAreNotDecoded(t *testing.T) {
	cells, flags := make([]api.Cell, api.MaxRows), slices.Repeat([]bool{true}, api.MaxRows)
	for i := range cells {
		cells[i] = integer(int64(i / 300))
	}
	for _, c := range encodings(api.KindInt, cells) {
		if c.body[0] == api.CodecPlain {
			continue
		}
		bound := uint64(2*len(c.body) + 12*api.MaxRows)
		for _, leaf := range []api.Node{leafOf(api.OpLt, integer(90)), leafOf(api.OpBetween, integer(5), integer(7)), leafOf(api.OpIn, integers(1, 2, 3)...)} {
			if got := allocated(func() { kernel.Filter(api.KindInt, api.MaxRows, c.body, leaf) }); got > bound {
				t.Errorf("codec %d, width %d: Filter takes %d bytes", c.body[0], c.body[1], got)
			}
		}
		if got := allocated(func() { kernel.Fold(api.KindInt, api.MaxRows, c.body, bitmap(flags)) }); got > bound {
			t.Errorf("codec %d, width %d: Fold takes %d bytes", c.body[0], c.body[1], got)
		}
	}
}

func TestMemoryStaysWithinTheArgumentsAndTheRows(t *testing.T) {
	long := text(strings.Repeat("s", api.MaxStr))
	body, _ := codec.Encode(api.KindStr, slices.Repeat([]api.Cell{long}, api.MaxRows), api.CodecDict, 0)
	leaf := leafOf(api.OpIn, slices.Repeat([]api.Cell{long}, api.MaxArgs)...)
	if got := allocated(func() { kernel.Filter(api.KindStr, api.MaxRows, body, leaf) }); got > 1<<20 {
		t.Errorf("Filter takes %d bytes", got)
	}
	sel := slices.Repeat([]uint64{full}, api.MaxRows/64)
	if got := allocated(func() { kernel.Fold(api.KindStr, api.MaxRows, body, sel) }); got > 1<<20 {
		t.Errorf("Fold takes %d bytes", got)
	}
	// Counts that no body of that size holds.
	for name, body := range map[string][]byte{
		"runs": join([]byte{3, 0}, u64(0), u32(-1), u32(1), u64(7)), "dictionary": join([]byte{2, 32}, u64(0), u32(-1), u64(7)),
	} {
		if got := allocated(func() { kernel.Filter(api.KindInt, 1, body, leafOf(api.OpIsNull)) }); got > 1<<16 {
			t.Errorf("%s: Filter takes %d bytes", name, got)
		}
		if got := allocated(func() { kernel.Fold(api.KindInt, 1, body, []uint64{1}) }); got > 1<<16 {
			t.Errorf("%s: Fold takes %d bytes", name, got)
		}
	}
}
