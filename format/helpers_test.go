package format_test

import (
	"hash/crc32"
	"slices"
	"strings"

	"colscan/api"
)

const (
	least    = -1 << 63
	greatest = 1<<63 - 1
	full     = 1<<64 - 1
)

var null = api.Cell{Null: true}

func integer(v int64) api.Cell { return api.Cell{Int: v} }

func text(s string) api.Cell { return api.Cell{Str: s} }

func integers(vals ...int64) []api.Cell {
	var cells []api.Cell
	for _, v := range vals {
		cells = append(cells, integer(v))
	}
	return cells
}

func texts(vals ...string) []api.Cell {
	var cells []api.Cell
	for _, v := range vals {
		cells = append(cells, text(v))
	}
	return cells
}

// u32 writes numbers of four bytes each.
func u32(nums ...int) []byte {
	var out []byte
	for _, n := range nums {
		out = append(out, byte(n), byte(n>>8), byte(n>>16), byte(n>>24))
	}
	return out
}

// u64 writes numbers of eight bytes each.
func u64(nums ...uint64) []byte {
	var out []byte
	for _, n := range nums {
		out = append(out, u32(int(n&0xFFFFFFFF), int(n>>32))...)
	}
	return out
}

func join(parts ...[]byte) []byte {
	return slices.Concat(parts...)
}

// manyNumbers gives n numbers that have nothing to do with each other, the same in every run.
func manyNumbers(n int, seed uint64) []uint64 {
	out := make([]uint64, n)
	for i := range out {
		z := (seed*0x10001 + uint64(i) + 1) * 0x9E3779B97F4A7C15
		z = (z ^ z>>30) * 0xBF58476D1CE4E5B9
		out[i] = z ^ z>>29
	}
	return out
}

// rawChunk is the data of a chunk as it is to lie in an image, in order or not.
type rawChunk struct {
	body, record []byte
}

type rawGroup struct {
	rows   int
	chunks []rawChunk
}

// build lays out an image as 4.2 says, with right offsets and checksums, whatever its chunks are.
func build(kinds []int, groups ...rawGroup) []byte {
	rows := 0
	for _, g := range groups {
		rows += g.rows
	}
	out := join([]byte("CSI1"), u32(len(kinds), len(groups), rows))
	for _, kind := range kinds {
		out = append(out, byte(kind))
	}
	at := 16 + len(kinds) + len(groups)*(4+16*len(kinds))
	var data []byte
	for _, g := range groups {
		out = append(out, u32(g.rows)...)
		for _, c := range g.chunks {
			out = append(out, u32(at+len(data), len(c.body), int(crc32.ChecksumIEEE(c.body)), len(c.record))...)
			data = join(data, c.body, c.record)
		}
	}
	return append(out, data...)
}

// one is an image of one chunk.
func one(kind, rows int, body, record []byte) []byte {
	return build([]int{kind}, rawGroup{rows, []rawChunk{{body, record}}})
}

// columnOf gives n cells of a kind; the style says what they are like.
func columnOf(kind, n, style int) []api.Cell {
	intEdges := []int64{least, least + 1, -1, 0, 1, greatest - 1, greatest}
	strEdges := []string{"", "\x00", "a", "ab", "a\x00", "\xff\xff", strings.Repeat("z", api.MaxStr)}
	var cells []api.Cell
	for i, x := range manyNumbers(n, uint64(100*kind+style)) {
		c := integer([]int64{int64(x % 3), int64(i/7) - 3, intEdges[x%7], int64(x)}[style%4])
		if kind == api.KindStr {
			c = text([]string{strEdges[x%4], strEdges[i/9%7], strings.Repeat("q", int(x%90)), string(u64(x))}[style%4])
		}
		if style/4%3 == 1 && x>>20%4 == 0 || style/4%3 == 2 && i < n-1 {
			c = null
		}
		cells = append(cells, c)
	}
	return cells
}

// tableOf gives a table with so many columns and rows.
func tableOf(columns, rows, seed int) api.Table {
	t := api.Table{Rows: make([][]api.Cell, rows)}
	for col := range columns {
		kind := 1 + (col+seed)%2
		t.Kinds = append(t.Kinds, kind)
		for i, c := range columnOf(kind, rows, seed+5*col) {
			t.Rows[i] = append(t.Rows[i], c)
		}
	}
	return t
}

// splitOf splits rows into so many groups; some of them are empty.
func splitOf(rows, groups int, seed uint64) []int {
	counts := make([]int, groups)
	left := rows
	for g, x := range manyNumbers(groups, seed) {
		counts[g] = int(x % uint64(left+1))
		if x>>32%4 == 0 {
			counts[g] = 0
		}
		left -= counts[g]
	}
	counts[groups-1] += left
	return counts
}

// plansOf lists plans that are in order for the kind.
func plansOf(kind int) []api.Plan {
	var plans []api.Plan
	for _, codec := range []int{api.CodecPlain, api.CodecDict, api.CodecRuns, api.CodecFrame, api.CodecPacked} {
		widths := []int{0}
		if codec >= api.CodecFrame {
			if kind == api.KindStr {
				continue
			}
			widths = []int{0, 1, 3, 7, 64}
		}
		for _, width := range widths {
			for _, filter := range [][2]int{{0, 0}, {1, 1}, {3, 2}, {64, 8}} {
				for _, ranged := range []bool{false, true} {
					plans = append(plans, api.Plan{Codec: codec, Width: width, Range: ranged, Bloom: filter[0], Hashes: filter[1]})
				}
			}
		}
	}
	return plans
}

// groupsOf chooses a plan for each chunk of a table that is split into so many groups.
func groupsOf(t api.Table, count int, seed uint64) []api.GroupPlan {
	var groups []api.GroupPlan
	for g, rows := range splitOf(len(t.Rows), count, seed) {
		group := api.GroupPlan{Rows: rows}
		for col, kind := range t.Kinds {
			plans := plansOf(kind)
			x := manyNumbers(1, seed+uint64(1000*g+col))[0]
			group.Plans = append(group.Plans, plans[x%uint64(len(plans))])
		}
		groups = append(groups, group)
	}
	return groups
}

func sameRow(a, b []api.Cell) bool { return slices.Equal(a, b) }

func sameTable(a, b api.Table) bool {
	return slices.Equal(a.Kinds, b.Kinds) && slices.EqualFunc(a.Rows, b.Rows, sameRow)
}

func sameZone(a, b api.Zone) bool {
	return a.Range == b.Range && a.Nulls == b.Nulls && a.Min == b.Min && a.Max == b.Max && a.Hashes == b.Hashes &&
		slices.Equal(a.Bloom, b.Bloom)
}

func sameChunk(a, b api.Chunk) bool {
	return a.Offset == b.Offset && a.Length == b.Length && a.Sum == b.Sum && a.Codec == b.Codec && a.Width == b.Width &&
		sameZone(a.Zone, b.Zone)
}

func sameGroup(a, b api.Group) bool {
	return a.Rows == b.Rows && slices.EqualFunc(a.Chunks, b.Chunks, sameChunk)
}

func sameImage(a, b api.Image) bool {
	return slices.Equal(a.Kinds, b.Kinds) && slices.EqualFunc(a.Groups, b.Groups, sameGroup)
}
