package scan_test

import (
	"slices"
	"testing"

	"colscan/api"
	"colscan/format"
	"colscan/scan"
)

// someQueries are well-typed for a table with a column of integers; wrongQueries for no table.
func someQueries() []api.Query {
	return []api.Query{{Cols: []int{0}}, {Aggs: []api.Agg{{Fn: api.AggRows}}}, {Where: nodes(leafOf(api.OpIsNull, 0)), Cols: []int{0, 0}}, {Where: nodes(leafOf(api.OpIn, 0), not), Aggs: []api.Agg{{Fn: api.AggMax}}}}
}

func wrongQueries() []api.Query {
	return []api.Query{{}, {Cols: []int{16}}, {Cols: []int{0}, Aggs: []api.Agg{{Fn: api.AggRows}}}, {Where: nodes(not), Cols: []int{0}}, {Where: nodes(leafOf(api.OpEq, 0)), Cols: []int{0}},
		{Where: nodes(leafOf(0, 0)), Cols: []int{0}}, {Cols: []int{0}, Where: nodes(leafOf(api.OpEq, 0, null))}, {Aggs: []api.Agg{{Fn: 6}}}}
}

// checkMalformed tells of every query that the image is malformed, well-typed or not.
func checkMalformed(t *testing.T, name string, b []byte) {
	t.Helper()
	for _, q := range append(someQueries(), wrongQueries()...) {
		checkRun(t, name, b, q, api.Outcome{Err: api.ErrMalformed})
		for _, sw := range allSwitches {
			if got, code := scan.Skips(b, q, sw); code != api.ErrMalformed || len(got) != 0 {
				t.Errorf("%s: Skips gives %v, code %d", name, got, code)
			}
		}
	}
}

func TestRunOfWrongQueries(t *testing.T) {
	for _, b := range append(peopleImages(t)[:3], write(t, api.Table{Kinds: []int{1}}, nil)) {
		for _, q := range wrongQueries() {
			checkRun(t, "wrong", b, q, api.Outcome{Err: api.ErrQuery})
		}
	}
	// Whether a query is well-typed hangs on the kinds of the image, and goes before an overflow.
	over := column(1, integers(greatest, 1)...)
	b := write(t, over, evenly(over, 1, api.Plan{Codec: 1}))
	checkRun(t, "an overflow", b, api.Query{Aggs: []api.Agg{{Fn: api.AggSum}}}, api.Outcome{Err: api.ErrOverflow})
	checkRun(t, "an overflow and a wrong aggregate", b, api.Query{Aggs: []api.Agg{{Fn: api.AggSum}, {Fn: api.AggSum, Col: 1}}}, api.Outcome{Err: api.ErrQuery})
	checkMalformed(t, "an overflow", b[:len(b)-1])
	word := api.Query{Cols: []int{0}, Where: nodes(leafOf(api.OpEq, 0, text("a")))}
	number := api.Query{Cols: []int{0}, Where: nodes(leafOf(api.OpEq, 0, integer(1)))}
	for kind, wrong := range map[int]api.Query{api.KindInt: word, api.KindStr: number} {
		for _, count := range []int{0, 1} {
			groups := slices.Repeat([]api.GroupPlan{{Plans: []api.Plan{{Codec: 1}}}}, count)
			b := write(t, api.Table{Kinds: []int{kind}}, groups)
			checkRun(t, "kinds", b, wrong, api.Outcome{Err: api.ErrQuery})
			checkRun(t, "kinds", b, map[int]api.Query{api.KindInt: number, api.KindStr: word}[kind], api.Outcome{})
		}
	}
}

func TestRunOfQueriesThatAreChanged(t *testing.T) {
	d := &dice{21}
	wrong := 0
	for range 1500 {
		table := d.table(1+d.below(3), 9)
		b := write(t, table, d.groups(table, 2))
		q := d.query(table)
		changeQuery(d, &q)
		want := api.Outcome{Err: modelCheck(table.Kinds, q)}
		if want.Err == api.ErrNone {
			want = modelRun(table, q)
		} else {
			wrong++
		}
		if got := scan.Run(b, q, pick(d, allSwitches)); !same(got, want) {
			t.Errorf("%+v: %v, want %v", q, got, want)
		}
	}
	if wrong < 300 || wrong > 1200 {
		t.Errorf("%d queries of 1500 are wrong", wrong)
	}
}

func TestRunOfImagesThatAreCut(t *testing.T) {
	for _, b := range [][]byte{peopleImages(t)[0], peopleImages(t)[29], write(t, api.Table{Kinds: []int{1}}, nil)} {
		for size := range b {
			checkMalformed(t, "cut", b[:size])
			checkMalformed(t, "without its front", b[size+1:])
		}
		for _, more := range []byte{0, 1, 255} {
			checkMalformed(t, "a byte more", append(slices.Clone(b), more))
		}
		checkMalformed(t, "doubled", slices.Concat(b, b))
	}
	for _, b := range [][]byte{nil, {}, []byte("CSI1"), []byte("no image, but more than sixteen bytes"), make([]byte, 17), make([]byte, 1000)} {
		checkMalformed(t, "no image", b)
	}
}

// Up to four bytes of one body that follow each other are changed.
func TestRunOfBodiesThatAreChanged(t *testing.T) {
	d := &dice{31}
	for i, b := range peopleImages(t) {
		if i%7 != 0 {
			continue
		}
		for _, g := range parse(t, b).Groups {
			for _, c := range g.Chunks {
				for at := c.Offset; at < c.Offset+c.Length; at++ {
					other := slices.Clone(b)
					for k := range min(1+d.below(4), c.Offset+c.Length-at) {
						other[at+k] = byte(d.number())
					}
					other[at] = b[at] ^ byte(1+d.below(255))
					got := scan.Run(other, api.Query{Cols: []int{0}}, pick(d, allSwitches))
					if !same(got, api.Outcome{Err: api.ErrMalformed}) {
						t.Fatalf("byte %d of %d: %v", at, len(b), got)
					}
				}
			}
		}
	}
}

// Whatever is done to an image, Run finds it malformed exactly if Read does, and else answers for what Read gives.
func TestRunOfImagesThatAreChanged(t *testing.T) {
	d := &dice{41}
	valid, tried := 0, 0
	for i, b := range peopleImages(t) {
		if i%9 != 0 {
			continue
		}
		for at := range b {
			other := slices.Clone(b)
			other[at] = pick(d, []byte{0, 1, 2, 3, 255, b[at] + 1, b[at] ^ 128, byte(d.number())})
			if d.oneIn(3) {
				other[d.below(len(b))] ^= byte(1 << d.below(8))
			}
			if d.oneIn(9) {
				other = slices.Delete(other, at, at+1)
			}
			q := pick(d, someQueries())
			want := api.Outcome{Err: api.ErrMalformed}
			table, code := format.Read(other)
			tried++
			if code == api.ErrNone {
				valid++
				want = api.Outcome{Err: modelCheck(table.Kinds, q)}
			}
			if want.Err == api.ErrNone {
				want = modelRun(table, q)
			}
			if got := scan.Run(other, q, pick(d, allSwitches)); !same(got, want) {
				t.Fatalf("byte %d of %d: %v, want %v", at, len(b), got, want)
			}
		}
	}
	if valid == 0 || valid > tried/2 {
		t.Errorf("of %d images %d are valid", tried, valid)
	}
}

// otherZone gives a zone for the cells that is in order: tight, loose, absent or not sound.
func otherZone(d *dice, t *testing.T, kind int, cells []api.Cell) (z api.Zone, sound bool) {
	t.Helper()
	vals := slices.DeleteFunc(slices.Clone(cells), func(c api.Cell) bool { return c.Null })
	nulls := len(cells) - len(vals)
	sound = true
	if !d.oneIn(3) {
		z.Range, z.Nulls = true, nulls
	}
	if z.Range && len(vals) > 0 {
		z.Min, z.Max = slices.MinFunc(vals, compareValues), slices.MaxFunc(vals, compareValues)
		switch d.below(8) {
		case 0:
			z.Min, z.Max, sound = z.Max, z.Min, compareValues(z.Min, z.Max) == 0
		case 1:
			if z.Nulls != 0 {
				z.Nulls, sound = z.Nulls-1, false
			}
		case 2:
			z.Min = api.Cell{Int: least * int64(2-kind)}
		case 3:
			z.Max = []api.Cell{{}, integer(greatest), text("\xff\xff\xff\xff")}[kind]
		}
	}
	if !d.oneIn(3) {
		words := pick(d, []int{1, 3, 64})
		held := vals
		if len(vals) > 0 && d.oneIn(8) {
			held = vals[1:]
		}
		// The cell that is 0 in every field is a value of both kinds.
		more := pick(d, [][]api.Cell{nil, {{}}})
		f := filterOf(t, kind, words, append(slices.Clone(held), more...)...)
		z.Bloom, z.Hashes = f.Bloom, f.Hashes
		for _, v := range vals {
			sound = sound && format.BloomHas(f.Bloom, f.Hashes, kind, v)
		}
	}
	return z, sound
}

// With other zones an image is malformed if one of them is not sound, and else has the same outcomes.
func TestRunOfImagesWithOtherZones(t *testing.T) {
	d := &dice{51}
	sounds, unsounds, skipped := 0, 0, 0
	for range 150 {
		table := d.table(2, pick(d, []int{0, 3, 20, 70}))
		b := write(t, table, d.groups(table, 1+d.below(3)))
		im := parse(t, b)
		var zones []api.Zone
		allSound := true
		first := 0
		for _, g := range im.Groups {
			for col, kind := range im.Kinds {
				z, sound := otherZone(d, t, kind, cellsOf(table.Rows[first:first+g.Rows], col))
				zones = append(zones, z)
				allSound = allSound && sound
			}
			first += g.Rows
		}
		other := rezone(t, b, zones...)
		if !allSound {
			unsounds++
			checkRun(t, "an unsound zone", other, api.Query{Cols: []int{0}}, api.Outcome{Err: api.ErrMalformed})
			continue
		}
		sounds++
		for range 10 {
			q := d.query(table)
			checkRun(t, "other zones", other, q, modelRun(table, q))
			skipped += checkSkips(t, other, q)
		}
	}
	if sounds < 30 || unsounds < 30 || skipped < 100 {
		t.Errorf("%d images sound, %d not, %d groups skipped", sounds, unsounds, skipped)
	}
}
