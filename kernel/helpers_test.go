package kernel_test

import (
	"slices"
	"strings"

	"colscan/api"
	"colscan/codec"
)

const (
	least    = -1 << 63
	greatest = 1<<63 - 1
	full     = 1<<64 - 1
)

var null = api.Cell{Null: true}

var allCodecs = []int{api.CodecPlain, api.CodecDict, api.CodecRuns, api.CodecFrame, api.CodecPacked}

func integer(v int64) api.Cell { return api.Cell{Int: v} }

func text(s string) api.Cell { return api.Cell{Str: s} }

func integers(vals ...int64) []api.Cell {
	var cells []api.Cell
	for _, v := range vals {
		cells = append(cells, integer(v))
	}
	return cells
}

func texts(vals ...string) []api.Cell {
	var cells []api.Cell
	for _, v := range vals {
		cells = append(cells, text(v))
	}
	return cells
}

func leafOf(op int, args ...api.Cell) api.Node {
	return api.Node{Op: op, Args: args}
}

// u32 writes numbers of four bytes each.
func u32(nums ...int) []byte {
	var out []byte
	for _, n := range nums {
		out = append(out, byte(n), byte(n>>8), byte(n>>16), byte(n>>24))
	}
	return out
}

// u64 writes numbers of eight bytes each.
func u64(nums ...uint64) []byte {
	var out []byte
	for _, n := range nums {
		out = append(out, u32(int(n&0xFFFFFFFF), int(n>>32))...)
	}
	return out
}

func join(parts ...[]byte) []byte {
	return slices.Concat(parts...)
}

// manyNumbers gives n numbers that have nothing to do with each other, the same in every run.
func manyNumbers(n int, seed uint64) []uint64 {
	out := make([]uint64, n)
	for i := range out {
		z := (seed*0x10001 + uint64(i) + 1) * 0x9E3779B97F4A7C15
		z = (z ^ z>>30) * 0xBF58476D1CE4E5B9
		out[i] = z ^ z>>29
	}
	return out
}

// front is as much of a list as a message needs.
func front[E any](list []E) []E {
	return list[:min(len(list), 20)]
}

// bitmap sets the places of the flags that are true.
func bitmap(flags []bool) []uint64 {
	words := make([]uint64, (len(flags)+63)/64)
	for i, flag := range flags {
		if flag {
			words[i/64] |= 1 << (i % 64)
		}
	}
	return words
}

// chunkOf is a body and the cells that it stands for.
type chunkOf struct {
	name  string
	kind  int
	cells []api.Cell
	body  []byte
}

// intColumn gives n integers; the style says what they are like.
func intColumn(n, style int) []api.Cell {
	var cells []api.Cell
	edges := []int64{least, least + 1, -1, 0, 1, greatest - 1, greatest}
	for i, x := range manyNumbers(n, uint64(style)) {
		v := []int64{int64(x%9) - 4, int64(i / 7), edges[x%7], int64(x), int64(x%5) + 1000, edges[i/9%7]}[style]
		cells = append(cells, integer(v))
	}
	return cells
}

const intStyles = 6

// strColumn gives n strings; the style says what they are like.
func strColumn(n, style int) []api.Cell {
	var cells []api.Cell
	edges := []string{"", "\x00", "a", "ab", "a\x00", "\xff", strings.Repeat("z", 40)}
	for i, x := range manyNumbers(n, uint64(style)+50) {
		cells = append(cells, text([]string{edges[x%7], edges[i/9%7], string(u64(x))}[style]))
	}
	return cells
}

const strStyles = 3

// withNulls gives the cells without NULLs, with a few, with many, and with nothing but NULLs.
func withNulls(cells []api.Cell) [][]api.Cell {
	lists := make([][]api.Cell, 4)
	for i, x := range manyNumbers(len(cells), 77) {
		for k, isNull := range []bool{false, x%5 == 0, x%5 > 0 && i != len(cells)-1, true} {
			c := cells[i]
			if isNull {
				c = null
			}
			lists[k] = append(lists[k], c)
		}
	}
	return lists
}

// encodings are the bodies of the cells, in every codec that they fit.
func encodings(kind int, cells []api.Cell) []chunkOf {
	var out []chunkOf
	for _, number := range allCodecs {
		widths := []int{0}
		if number == api.CodecFrame || number == api.CodecPacked {
			widths = []int{0, 1, 3, 4, 10, 31, 32, 33, 62, 63, 64}
		}
		for _, width := range widths {
			if body, code := codec.Encode(kind, cells, number, width); code == api.ErrNone {
				out = append(out, chunkOf{"encoded", kind, cells, body})
			}
		}
	}
	return out
}

// encoded are bodies of both kinds, around the edges of the words of a bitmap.
func encoded() []chunkOf {
	var out []chunkOf
	for _, n := range []int{0, 1, 2, 20, 63, 64, 65, 128, 150} {
		for style := range intStyles {
			for _, cells := range withNulls(intColumn(n, style)) {
				out = append(out, encodings(api.KindInt, cells)...)
			}
		}
		for style := range strStyles {
			for _, cells := range withNulls(strColumn(n, style)) {
				out = append(out, encodings(api.KindStr, cells)...)
			}
		}
	}
	return out
}

// otherBodies are valid too, though Encode never gives them.
func otherBodies() []chunkOf {
	minus := func(n uint64) uint64 { return -n }
	return []chunkOf{
		{"an entry that is not used", 1, integers(3, 3), join([]byte{2, 1}, u64(0), u32(2), u64(3, 8), u64(0))},
		{"the first entry is not used", 1, []api.Cell{null, integer(8), integer(8)}, join([]byte{2, 1}, u64(1), u32(2), u64(3, 8), u64(3))},
		{"a dictionary without values", 2, []api.Cell{null}, join([]byte{2, 1}, u64(1), u32(2), u32(0, 1), []byte("x"))},
		{"strings that are not used", 2, texts("b", "d", "b"),
			join([]byte{2, 3}, u64(0), u32(5), u32(1, 2, 3, 4, 5), []byte("abcde"), u64(1|3<<3|1<<6))},
		{"a base below the smallest", 1, integers(6, 5), join([]byte{4, 4}, u64(0, 3), u64(3|2<<4))},
		{"a base without values", 1, []api.Cell{null}, join([]byte{4, 0}, u64(1, 77))},
		{"the least base and the greatest lane", 1, integers(greatest, 0), join([]byte{4, 64}, u64(0, 1<<63, full, 1<<63))},
		{"the base -1 and the greatest lane", 1, integers(greatest, -1), join([]byte{4, 64}, u64(0, full, 1<<63, 0))},
		{"the greatest base", 1, integers(greatest, greatest), join([]byte{4, 64}, u64(0, greatest, 0, 0))},
		{"the greatest base of width 0", 1, integers(greatest, greatest), join([]byte{4, 0}, u64(0, greatest))},
		{"the least base of width 0", 1, integers(least, least), join([]byte{4, 0}, u64(0, 1<<63))},
		{"a negative base and wide lanes", 1, integers(-10, 246), join([]byte{4, 9}, u64(0, minus(10)), u64(256<<9))},
		{"a wider packing", 1, integers(1, 1), join([]byte{5, 32}, u64(0, 1<<32|1))},
	}
}

func allBodies() []chunkOf {
	return append(encoded(), otherBodies()...)
}
