package format_test

import (
	"math"
	"slices"
	"strings"
	"testing"

	"colscan/api"
	"colscan/format"
)

var offLimits = []int{-1, math.MinInt, math.MaxInt, 1 << 32}

func bloomOf(t *testing.T, kind int, cells []api.Cell, hashes, words int) []uint64 {
	t.Helper()
	filter, ok := format.Bloom(kind, cells, hashes, words)
	if !ok || len(filter) != words {
		t.Fatalf("Bloom(%d, %d cells, %d, %d): %d words, %v", kind, len(cells), hashes, words, len(filter), ok)
	}
	return filter
}

func TestBloomSetsExactlyThePlacesOfTheValues(t *testing.T) {
	for kind := api.KindInt; kind <= api.KindStr; kind++ {
		for words := 1; words <= api.MaxBloom; words++ {
			for hashes := 1; hashes <= api.MaxHashes; hashes++ {
				for _, n := range []int{0, 1, 2, 7, 30} {
					cells := columnOf(kind, n, words%4+4*(hashes%2))
					got := bloomOf(t, kind, cells, hashes, words)
					if want := modelBloom(kind, cells, hashes, words); !slices.Equal(got, want) {
						t.Fatalf("Bloom(%d, %v, %d, %d): %#x, want %#x", kind, cells, hashes, words, got, want)
					}
				}
			}
		}
	}
}

func TestBloomOfAValueWorkedOutByHand(t *testing.T) {
	// The hash of "a" is af63dc4c8601ec8c: it starts at place 8601ec8c and goes on by af63dc4d, modulo 192.
	places := []int{}
	for i := range 3 {
		places = append(places, (0x8601ec8c+i*0xaf63dc4d)%192)
	}
	// The hash of nothing is where FNV-1a begins, cbf29ce484222325.
	places = append(places, 0x84222325%192, (0x84222325+0xcbf29ce5)%192, (0x84222325+2*0xcbf29ce5)%192)
	want := make([]uint64, 3)
	for _, p := range places {
		want[p/64] |= 1 << (p % 64)
	}
	if got := bloomOf(t, api.KindStr, texts("a", ""), 3, 3); !slices.Equal(got, want) {
		t.Errorf("%#x, want %#x", got, want)
	}
}

func TestNullsSetNoPlace(t *testing.T) {
	for kind := api.KindInt; kind <= api.KindStr; kind++ {
		if got := bloomOf(t, kind, []api.Cell{null, null}, 8, 5); !slices.Equal(got, make([]uint64, 5)) {
			t.Errorf("kind %d: %#x", kind, got)
		}
	}
}

func TestBloomHasEveryValueThatWasPutIn(t *testing.T) {
	for kind := api.KindInt; kind <= api.KindStr; kind++ {
		for style := range 4 {
			cells := columnOf(kind, 40, style)
			for words := 1; words <= api.MaxBloom; words += 3 {
				for hashes := 1; hashes <= api.MaxHashes; hashes++ {
					filter := bloomOf(t, kind, cells, hashes, words)
					for _, c := range cells {
						if !format.BloomHas(filter, hashes, kind, c) {
							t.Fatalf("kind %d, %d words, %d hashes: %v is lost", kind, words, hashes, c)
						}
					}
				}
			}
		}
	}
}

func TestBloomHasIsFalseExactlyIfAPlaceIsMissing(t *testing.T) {
	for kind := api.KindInt; kind <= api.KindStr; kind++ {
		asked := slices.Concat(columnOf(kind, 50, 2), columnOf(kind, 50, 3), columnOf(kind, 20, 1))
		for words := 1; words <= api.MaxBloom; words++ {
			for hashes := 1; hashes <= api.MaxHashes; hashes++ {
				filter := bloomOf(t, kind, columnOf(kind, 20, 1), hashes, words)
				for _, c := range asked {
					if format.BloomHas(filter, hashes, kind, c) != modelHas(filter, hashes, kind, c) {
						t.Fatalf("kind %d, %d words, %d hashes: %v", kind, words, hashes, c)
					}
				}
			}
		}
		for _, c := range asked {
			for _, p := range modelPlaces(kind, c, 8, 64) {
				filter := slices.Repeat([]uint64{full}, 64)
				filter[p/64] &^= 1 << (p % 64)
				if format.BloomHas(filter, 8, kind, c) {
					t.Fatalf("place %d of %v is not asked for", p, c)
				}
			}
		}
	}
}

func refusesBloom(t *testing.T, kind int, cells []api.Cell, hashes, words int) {
	t.Helper()
	if filter, ok := format.Bloom(kind, cells, hashes, words); ok || len(filter) != 0 {
		t.Errorf("Bloom(%d, %d cells, %d, %d) is not refused", kind, len(cells), hashes, words)
	}
}

func TestBloomRefuses(t *testing.T) {
	for _, cells := range [][]api.Cell{nil, {null}, {integer(0)}} {
		for _, kind := range append([]int{0, 3}, offLimits...) {
			refusesBloom(t, kind, cells, 1, 1)
		}
		for _, hashes := range append([]int{0, api.MaxHashes + 1}, offLimits...) {
			refusesBloom(t, api.KindInt, cells, hashes, 1)
		}
		for _, words := range append([]int{0, api.MaxBloom + 1}, offLimits...) {
			refusesBloom(t, api.KindInt, cells, 1, words)
		}
	}
	for kind, wrong := range map[int][]api.Cell{
		api.KindInt: {text("a"), {Int: 1, Str: "a"}, {Null: true, Int: 1}, {Null: true, Str: "a"}},
		api.KindStr: {integer(1), {Int: 1, Str: "a"}, {Null: true, Int: 1}, {Null: true, Str: "a"}, text(strings.Repeat("s", api.MaxStr+1))},
	} {
		for _, c := range wrong {
			refusesBloom(t, kind, []api.Cell{c}, 1, 1)
			refusesBloom(t, kind, []api.Cell{null, {}, c, null}, 8, 64)
		}
	}
	bloomOf(t, api.KindStr, texts(strings.Repeat("s", api.MaxStr)), 8, 64)
	bloomOf(t, api.KindInt, make([]api.Cell, api.MaxRows), 8, 64)
	refusesBloom(t, api.KindInt, make([]api.Cell, api.MaxRows+1), 8, 64)
}

func TestBloomHasIsFalseForWhatIsNotInOrder(t *testing.T) {
	filter := slices.Repeat([]uint64{full}, api.MaxBloom+1)
	for _, words := range []int{1, 2, api.MaxBloom} {
		for hashes := 1; hashes <= api.MaxHashes; hashes++ {
			for kind := api.KindInt; kind <= api.KindStr; kind++ {
				if !format.BloomHas(filter[:words], hashes, kind, api.Cell{}) {
					t.Errorf("%d words, %d hashes, kind %d: a full filter has everything", words, hashes, kind)
				}
			}
		}
	}
	for _, hashes := range append([]int{0, api.MaxHashes + 1}, offLimits...) {
		if format.BloomHas(filter[:1], hashes, api.KindInt, integer(1)) {
			t.Errorf("%d hashes", hashes)
		}
	}
	if format.BloomHas(nil, 1, api.KindInt, integer(1)) || format.BloomHas(filter, 1, api.KindInt, integer(1)) {
		t.Error("no words, or too many")
	}
	for _, kind := range append([]int{0, 3}, offLimits...) {
		if format.BloomHas(filter[:1], 1, kind, api.Cell{}) {
			t.Errorf("kind %d", kind)
		}
	}
	for kind, wrong := range map[int][]api.Cell{
		api.KindInt: {null, text("a"), {Int: 1, Str: "a"}, {Null: true, Int: 1}},
		api.KindStr: {null, integer(1), {Int: 1, Str: "a"}, text(strings.Repeat("s", api.MaxStr+1))},
	} {
		for _, c := range wrong {
			if format.BloomHas(filter[:1], 1, kind, c) {
				t.Errorf("kind %d: %v", kind, c)
			}
		}
	}
	if !format.BloomHas(filter[:1], 1, api.KindStr, text(strings.Repeat("s", api.MaxStr))) {
		t.Error("the longest string")
	}
}
