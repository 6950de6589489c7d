package codec_test

import (
	"slices"
	"strings"

	"colscan/api"
)

const (
	least    = -1 << 63
	greatest = 1<<63 - 1
)

var null = api.Cell{Null: true}

var allCodecs = []int{api.CodecPlain, api.CodecDict, api.CodecRuns, api.CodecFrame, api.CodecPacked}

func integer(v int64) api.Cell { return api.Cell{Int: v} }

func text(s string) api.Cell { return api.Cell{Str: s} }

func integers(vals ...int64) []api.Cell {
	var cells []api.Cell
	for _, v := range vals {
		cells = append(cells, integer(v))
	}
	return cells
}

func texts(vals ...string) []api.Cell {
	var cells []api.Cell
	for _, v := range vals {
		cells = append(cells, text(v))
	}
	return cells
}

// u32 writes numbers of four bytes each.
func u32(nums ...int) []byte {
	var out []byte
	for _, n := range nums {
		out = append(out, byte(n), byte(n>>8), byte(n>>16), byte(n>>24))
	}
	return out
}

// u64 writes numbers of eight bytes each.
func u64(nums ...uint64) []byte {
	var out []byte
	for _, n := range nums {
		out = append(out, u32(int(n&0xFFFFFFFF), int(n>>32))...)
	}
	return out
}

func join(parts ...[]byte) []byte {
	return slices.Concat(parts...)
}

// manyNumbers gives n numbers that have nothing to do with each other, the same in every run.
func manyNumbers(n int, seed uint64) []uint64 {
	out := make([]uint64, n)
	for i := range out {
		z := (seed + uint64(i) + 1) * 0x9E3779B97F4A7C15
		z = (z ^ z>>30) * 0xBF58476D1CE4E5B9
		out[i] = z ^ z>>29
	}
	return out
}

// column is a list of cells of one kind.
type column struct {
	kind  int
	cells []api.Cell
}

// withNulls puts a NULL for each of the cells whose place the rule takes.
func withNulls(cells []api.Cell, isNull func(i int) bool) []api.Cell {
	out := slices.Clone(cells)
	for i := range out {
		if isNull(i) {
			out[i] = null
		}
	}
	return out
}

// intLists are values with few and many different ones, in runs and not, small and at the edges of 64 bits.
func intLists(n int) [][]api.Cell {
	lists := make([][]api.Cell, 5)
	for i, x := range manyNumbers(n, uint64(n)) {
		edges := []int64{least, least + 1, -1, 0, 1, greatest - 1, greatest}
		for k, v := range []int64{int64(x % 3), int64(x % 300), int64(i/7) - 3, edges[x%7], int64(x)} {
			lists[k] = append(lists[k], integer(v))
		}
	}
	return lists
}

func strLists(n int) [][]api.Cell {
	lists := make([][]api.Cell, 4)
	for i, x := range manyNumbers(n, uint64(n)+7) {
		edges := []string{"", "\x00", "a", "ab", "a\x00", "\xff", strings.Repeat("z", int(x%40))}
		for k, s := range []string{edges[x%7], strings.Repeat("q", int(x%300)), edges[i/5%7], string(u64(x))} {
			lists[k] = append(lists[k], text(s))
		}
	}
	return lists
}

// columns are lists of both kinds, around the edges of the words of a bitmap, with NULLs in several ways.
func columns() []column {
	var out []column
	add := func(kind int, cells []api.Cell) {
		out = append(out,
			column{kind, cells},
			column{kind, withNulls(cells, func(i int) bool { return i%3 == 1 })},
			column{kind, withNulls(cells, func(i int) bool { return i != len(cells)-1 })},
			column{kind, withNulls(cells, func(i int) bool { return i/10%2 == 0 })},
			column{kind, withNulls(cells, func(int) bool { return true })})
	}
	for _, n := range []int{0, 1, 2, 3, 20, 63, 64, 65, 127, 128, 129, 400} {
		for _, cells := range intLists(n) {
			add(api.KindInt, cells)
		}
		for _, cells := range strLists(n) {
			add(api.KindStr, cells)
		}
	}
	return out
}

// widths are those that may be asked for with the codec.
func widths(codec int) []int {
	if codec != api.CodecFrame && codec != api.CodecPacked {
		return []int{0}
	}
	return []int{0, 1, 2, 3, 5, 9, 21, 31, 32, 33, 62, 63, 64}
}

// sample is a valid body that was worked out by hand.
type sample struct {
	name  string
	kind  int
	cells []api.Cell
	body  []byte
}

// encoded are the bodies that Encode gives; what it is asked for beside the cells stands in the body.
func encoded() []sample {
	return []sample{
		{"the document's example", 1, []api.Cell{integer(5), null, integer(7)}, join([]byte{4, 2}, u64(2, 5, 8))},
		{"plain, nothing", 1, nil, []byte{1, 0}},
		{"plain, no string", 2, nil, []byte{1, 0}},
		{"plain, NULLs", 2, []api.Cell{null, null}, join([]byte{1, 0}, u64(3))},
		{"plain integers", 1, []api.Cell{null, integer(-2), integer(least)}, join([]byte{1, 0}, u64(1, 1<<64-2, 1<<63))},
		{"plain strings", 2, texts("", "xy", "", "z"), join([]byte{1, 0}, u64(0), u32(0, 2, 2, 3), []byte("xyz"))},
		{"dictionary, nothing", 1, nil, join([]byte{2, 0}, u32(0))},
		{"dictionary, NULLs", 2, []api.Cell{null}, join([]byte{2, 0}, u64(1), u32(0))},
		{"dictionary of one", 1, integers(4, 4), join([]byte{2, 0}, u64(0), u32(1), u64(4))},
		{"dictionary of two", 1, integers(4, -4, 4), join([]byte{2, 1}, u64(0), u32(2), u64(1<<64-4, 4), u64(5))},
		{"dictionary of strings", 2, []api.Cell{text("b"), null, text(""), text("\xff"), text("b")},
			join([]byte{2, 2}, u64(2), u32(3), u32(0, 1, 2), []byte("b\xff"), u64(1|0<<2|2<<4|1<<6))},
		{"runs, nothing", 1, nil, join([]byte{3, 0}, u32(0))},
		{"runs, NULLs", 1, []api.Cell{null}, join([]byte{3, 0}, u64(1), u32(0))},
		{"runs across a NULL", 1, []api.Cell{integer(1), null, integer(1), integer(2), integer(1)},
			join([]byte{3, 0}, u64(2), u32(3), u32(2, 3, 4), u64(1, 2, 1))},
		{"runs of strings", 2, texts("a", "a", "", "a"), join([]byte{3, 0}, u64(0), u32(3), u32(2, 3, 4), u32(1, 1, 2), []byte("aa"))},
		{"frame, nothing", 1, nil, join([]byte{4, 9}, u64(0))},
		{"frame, NULLs", 1, []api.Cell{null}, join([]byte{4, 64}, u64(1, 0))},
		{"frame of width 0", 1, integers(-6, -6), join([]byte{4, 0}, u64(0, 1<<64-6))},
		{"frame of all integers", 1, integers(greatest, least), join([]byte{4, 64}, u64(0, 1<<63, 1<<64-1, 0))},
		{"packed, nothing", 1, nil, []byte{5, 64}},
		{"packed, NULLs", 1, []api.Cell{null}, join([]byte{5, 3}, u64(1))},
		{"packed of width 0", 1, integers(0, 0, 0), join([]byte{5, 0}, u64(0))},
		{"packed of width 30", 1, integers(1, 2, 3), join([]byte{5, 30}, u64(0, 0x80000001, 3))},
		{"packed of width 64", 1, integers(greatest), join([]byte{5, 64}, u64(0, greatest))},
	}
}

// otherBodies are valid too, though Encode never gives them.
func otherBodies() []sample {
	return []sample{
		{"an entry that is not used", 1, integers(3, 3), join([]byte{2, 1}, u64(0), u32(2), u64(3, 8), u64(0))},
		{"a dictionary without values", 2, []api.Cell{null}, join([]byte{2, 1}, u64(1), u32(2), u32(0, 1), []byte("x"))},
		{"a base below the smallest", 1, integers(6, 5), join([]byte{4, 4}, u64(0, 3), u64(3|2<<4))},
		{"a base without values", 1, []api.Cell{null}, join([]byte{4, 0}, u64(1, 77))},
		{"the least base and the greatest lane", 1, integers(greatest, 0), join([]byte{4, 64}, u64(0, 1<<63, 1<<64-1, 1<<63))},
		{"the base -1 and the greatest lane", 1, integers(greatest, -1), join([]byte{4, 64}, u64(0, 1<<64-1, 1<<63, 0))},
		{"the greatest base", 1, integers(greatest), join([]byte{4, 64}, u64(0, greatest, 0))},
		{"a wider packing", 1, integers(1, 1), join([]byte{5, 32}, u64(0, 1<<32|1))},
	}
}
