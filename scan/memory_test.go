package scan_test

import (
	"bytes"
	"reflect"
	"runtime"
	"slices"
	"sync"
	"testing"

	"colscan/api"
	"colscan/format"
	"colscan/scan"
)

// within gives a copy of the list that is cut out of a longer one, and the longer one.
func within[E any](list []E, behind E) (cut, array []E) {
	array = append(slices.Clone(list), slices.Repeat([]E{behind}, 40)...)
	return array[:len(list)], array
}

// lengthen appends to a list, by one entry and by many.
func lengthen[E any](list []E, mark E) {
	_ = append(list, mark)
	_ = append(list, slices.Repeat([]E{mark}, len(list)+100)...)
}

// overwrite appends to a list and writes into all of it.
func overwrite[E any](list []E, mark E) {
	lengthen(list, mark)
	for i := range list {
		list[i] = mark
	}
}

func cloneRows(rows [][]api.Cell) [][]api.Cell {
	var out [][]api.Cell
	for _, row := range rows {
		out = append(out, slices.Clone(row))
	}
	return out
}

// arguments are an image and a query, each list of it cut out of a longer one; the literals of all leaves lie side by
// side in one array.
type arguments struct {
	image []byte
	query api.Query
	kept  func() bool
	spoil func()
}

func argumentsOf(b []byte, q api.Query) arguments {
	var args []api.Cell
	for _, node := range q.Where {
		args = append(args, node.Args...)
	}
	_, argArray := within(args, text("behind"))
	where, nodeArray := within(q.Where, api.Node{Op: 99})
	at := 0
	for i := range where {
		where[i].Args = argArray[at : at+len(where[i].Args)]
		at += len(where[i].Args)
	}
	image, byteArray := within(b, 0xAA)
	cols, colArray := within(q.Cols, 99)
	aggs, aggArray := within(q.Aggs, api.Agg{Fn: 99})
	bytesBefore, argsBefore, nodesBefore := slices.Clone(byteArray), slices.Clone(argArray), slices.Clone(nodeArray)
	colsBefore, aggsBefore := slices.Clone(colArray), slices.Clone(aggArray)
	kept := func() bool {
		return bytes.Equal(byteArray, bytesBefore) && slices.Equal(argArray, argsBefore) && reflect.DeepEqual(nodeArray, nodesBefore) &&
			slices.Equal(colArray, colsBefore) && slices.Equal(aggArray, aggsBefore)
	}
	spoil := func() {
		overwrite(byteArray, 0xEE)
		overwrite(argArray, text("spoilt"))
		overwrite(nodeArray, api.Node{Op: 77})
		overwrite(colArray, 77)
		overwrite(aggArray, api.Agg{Fn: 77})
	}
	return arguments{image, api.Query{Where: where, Cols: cols, Aggs: aggs}, kept, spoil}
}

// checkOutcome spoils each list of an outcome, and looks for a trace in the others and in what was handed in.
func checkOutcome(t *testing.T, a arguments, sw api.Switches) {
	t.Helper()
	first, second := scan.Run(a.image, a.query, sw), scan.Run(a.image, a.query, sw)
	want := cloneRows(first.Rows)
	if !same(second, api.Outcome{Err: first.Err, Rows: want}) {
		t.Fatalf("%+v: another outcome the second time", a.query)
	}
	for i, row := range first.Rows {
		overwrite(row, text("spoilt"))
		for k, other := range first.Rows {
			if k > i && !slices.Equal(other, want[k]) {
				t.Fatalf("%+v: row %d follows row %d", a.query, k, i)
			}
		}
		lengthen(first.Rows[:i+1:i+1], integers(1))
	}
	for i, row := range first.Rows {
		if !slices.Equal(row, slices.Repeat(texts("spoilt"), len(row))) {
			t.Fatalf("%+v: row %d was written into by another", a.query, i)
		}
	}
	overwrite(first.Rows, texts("spoilt"))
	third := scan.Run(a.image, a.query, sw)
	if !a.kept() || !slices.EqualFunc(second.Rows, want, slices.Equal) || !slices.EqualFunc(third.Rows, want, slices.Equal) {
		t.Errorf("%+v: the arguments or another outcome changed", a.query)
	}
	for i := range third.Rows {
		lengthen(third.Rows[len(third.Rows)-1-i], text("spoilt"))
	}
	if !slices.EqualFunc(third.Rows, want, slices.Equal) {
		t.Errorf("%+v: a row that was lengthened wrote into another", a.query)
	}
	a.spoil()
	if !slices.EqualFunc(second.Rows, want, slices.Equal) {
		t.Errorf("%+v: the outcome follows the arguments", a.query)
	}
}

func TestOutcomesAreNewMemory(t *testing.T) {
	d := &dice{61}
	several := 0
	for range 150 {
		table := d.table(1+d.below(3), pick(d, []int{0, 1, 7, 70}))
		b := write(t, table, d.groups(table, 1+d.below(4)))
		for range 4 {
			q := d.query(table)
			if d.oneIn(4) {
				q.Where = nil
			}
			if len(modelRun(table, q).Rows) > 1 {
				several++
			}
			checkOutcome(t, argumentsOf(b, q), pick(d, allSwitches))
		}
	}
	if several < 100 {
		t.Errorf("only %d outcomes have several rows", several)
	}
}

func TestSkipsAndCheckLeaveTheirArguments(t *testing.T) {
	d := &dice{71}
	for range 300 {
		table := d.table(1+d.below(3), 20)
		q := d.query(table)
		if d.oneIn(3) {
			changeQuery(d, &q)
		}
		a := argumentsOf(write(t, table, d.groups(table, 3)), q)
		kinds, kindArray := within(table.Kinds, 99)
		kindsBefore := slices.Clone(kindArray)
		code := scan.Check(kinds, a.query)
		first, skipCode := scan.Skips(a.image, a.query, byBoth)
		second, _ := scan.Skips(a.image, a.query, byBoth)
		want := slices.Clone(second)
		overwrite(first, true)
		third, _ := scan.Skips(a.image, a.query, byBoth)
		scan.Run(a.image, a.query, byBoth)
		if !a.kept() || !slices.Equal(kindArray, kindsBefore) || !slices.Equal(second, want) || !slices.Equal(third, want) {
			t.Errorf("%+v: the arguments or another answer changed", q)
		}
		if scan.Check(kinds, a.query) != code || skipCode != code {
			t.Errorf("%+v: codes %d and %d", q, code, skipCode)
		}
		a.spoil()
		if !slices.Equal(second, want) {
			t.Errorf("%+v: the answer follows the arguments", q)
		}
	}
}

// kleeneArrays are two pairs for 70 rows whose four bitmaps lie side by side in one array.
func kleeneArrays() (array []uint64, a, b api.Pair) {
	array = []uint64{1, 2, 6, 0, 0xFFFF0000, 63, 5, 0, full, full}
	return array, api.Pair{True: array[0:2], Unknown: array[2:4]}, api.Pair{True: array[4:6], Unknown: array[6:8]}
}

func TestKleeneGivesNewMemory(t *testing.T) {
	for op := api.OpAnd; op <= api.OpNot; op++ {
		array, a, b := kleeneArrays()
		kept := slices.Clone(array)
		first, ok := scan.Kleene(op, 70, a, b)
		second, _ := scan.Kleene(op, 70, a, b)
		third, _ := scan.Kleene(op, 70, a, b)
		if !ok {
			t.Fatalf("op %d is refused", op)
		}
		want := clonePair(second)
		overwrite(first.True, full)
		if !slices.Equal(first.Unknown, want.Unknown) {
			t.Errorf("op %d: Unknown follows True", op)
		}
		overwrite(second.Unknown, full)
		if !slices.Equal(second.True, want.True) {
			t.Errorf("op %d: True follows Unknown", op)
		}
		if !slices.Equal(array, kept) || !samePair(third, want) {
			t.Errorf("op %d: the arguments or another answer changed", op)
		}
		overwrite(array, full)
		if !samePair(third, want) {
			t.Errorf("op %d: the answer follows the arguments", op)
		}
		array, a, b = kleeneArrays()
		scan.Kleene(op, 69, a, b)
		scan.Kleene(op, 70, a, api.Pair{})
		// One pair may be given twice, and one list may be both of a pair's if no row is set.
		if both, ok := scan.Kleene(op, 70, a, a); !slices.Equal(array, kept) || !ok || op != api.OpNot && !samePair(both, a) {
			t.Errorf("op %d of one pair twice: %x", op, both)
		}
		zero := make([]uint64, 2)
		if got, ok := scan.Kleene(op, 70, api.Pair{True: zero, Unknown: zero}, api.Pair{True: zero, Unknown: zero}); !ok || !slices.Equal(got.Unknown, []uint64{0, 0}) {
			t.Errorf("op %d of one list: %v, %x", op, ok, got)
		}
	}
}

// Many may ask for the same image at the same time: nobody writes what another one reads.
func TestManyMayAskAtOnce(t *testing.T) {
	d := &dice{81}
	table := d.table(3, 600)
	b := write(t, table, d.groups(table, 40))
	var queries []api.Query
	var wants []api.Outcome
	for range 12 {
		queries = append(queries, d.query(table))
		wants = append(wants, modelRun(table, queries[len(queries)-1]))
	}
	var asking sync.WaitGroup
	for i := range 48 {
		asking.Add(1)
		go func() {
			defer asking.Done()
			k := i % len(queries)
			if got := scan.Run(b, queries[k], allSwitches[i%4]); !same(got, wants[k]) {
				t.Errorf("query %d: another outcome", k)
			}
		}()
	}
	asking.Wait()
}

// allocated is how many bytes a call takes from the heap.
func allocated(call func()) uint64 {
	var before, after runtime.MemStats
	runtime.ReadMemStats(&before)
	call()
	runtime.ReadMemStats(&after)
	return after.TotalAlloc - before.TotalAlloc
}

// numbersInGroups is an image of the numbers from 0 on, in groups of so many.
func numbersInGroups(t *testing.T, count, rows int) []byte {
	t.Helper()
	var cells []api.Cell
	for i := range count {
		cells = append(cells, integer(int64(i)))
	}
	table := column(1, cells...)
	return write(t, table, evenly(table, rows, api.Plan{Codec: api.CodecFrame, Width: 16, Range: true}))
}

// A list of all cells takes 40 bytes a row and more, and has no room within the bound.
func TestOnlySelectedCellsAreDecoded(t *testing.T) {
	b := numbersInGroups(t, api.MaxRows, api.MaxRows)
	look := allocated(func() { format.Parse(b) })
	for _, q := range []api.Query{
		{Where: nodes(leafOf(api.OpBetween, 0, integers(70, 90)...)), Cols: []int{0, 0}}, {Where: nodes(leafOf(api.OpGe, 0, integer(9)), not), Cols: []int{0}},
		{Aggs: []api.Agg{{Fn: 3}, {Fn: 4}}}, {Where: nodes(leafOf(api.OpGt, 0, integer(5))), Aggs: []api.Agg{{Fn: 1}}},
	} {
		if got := allocated(func() { scan.Run(b, q, byBoth) }); got > look+20*api.MaxRows {
			t.Errorf("%+v: Run takes %d bytes, Parse %d", q, got, look)
		}
	}
}

// What is skipped is left out: only a part of all chunks is asked.
func TestSkippedGroupsAreLeftOut(t *testing.T) {
	b := numbersInGroups(t, api.MaxRows, 1024)
	look := allocated(func() { format.Parse(b) })
	q := api.Query{Where: nodes(leafOf(api.OpLt, 0, integer(2000))), Aggs: []api.Agg{{Fn: 3}}}
	some := allocated(func() { scan.Run(b, q, byRange) })
	all := allocated(func() { scan.Run(b, q, api.Switches{}) })
	if some > look+look/4 || all < look+look/2 {
		t.Errorf("Run takes %d bytes with pruning, %d without, Parse %d", some, all, look)
	}
}

// The number of rows asks for no chunk at all.
func TestColumnsThatNothingNamesAreLeftOut(t *testing.T) {
	b := numbersInGroups(t, api.MaxRows, api.MaxRows)
	look := allocated(func() { format.Parse(b) })
	if got := allocated(func() { scan.Run(b, api.Query{Aggs: []api.Agg{{Fn: api.AggRows}}}, byBoth) }); got > look+look/4 {
		t.Errorf("Run takes %d bytes, Parse %d", got, look)
	}
}

func TestMemoryStaysWithinTheArgumentsAndTheRows(t *testing.T) {
	// A column that is asked for again is fetched once.
	table := column(2, slices.Repeat([]api.Cell{text(string(make([]byte, api.MaxStr)))}, 1000)...)
	b := write(t, table, evenly(table, 1000, api.Plan{Codec: 1}))
	for _, q := range []api.Query{{Cols: make([]int, api.MaxOut)}, {Aggs: slices.Repeat([]api.Agg{{Fn: 4}}, api.MaxOut)}} {
		if got := allocated(func() { scan.Run(b, q, byBoth) }); got > uint64(6*len(b)) {
			t.Errorf("%d columns, %d aggregates of %d bytes: Run takes %d bytes", len(q.Cols), len(q.Aggs), len(b), got)
		}
	}
	// Counts that no image of that size holds, and filters that are far too long.
	head := append([]byte("CSI1\x10\x00\x00\x00\x00\x01\x00\x00\x00\x00\x01\x00"), make([]byte, 40)...)
	if got := allocated(func() { scan.Run(head, api.Query{Cols: []int{0}}, byBoth) }); got > 1<<16 {
		t.Errorf("a short image: Run takes %d bytes", got)
	}
	long := api.Query{Where: slices.Repeat(nodes(leafOf(api.OpIsNull, 0)), 1<<18), Cols: []int{0}}
	small := write(t, column(1), nil)
	if got := allocated(func() { scan.Run(small, long, byBoth) }); got > 1<<16 {
		t.Errorf("a long filter: Run takes %d bytes", got)
	}
}
