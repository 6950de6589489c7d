package bitvec_test

import (
	"slices"
	"testing"

	"colscan/api"
	"colscan/bitvec"
)

// eachBitmap shows bitmaps of many lengths, empty, full and between.
func eachBitmap(show func(flags []bool)) {
	for _, n := range bitCounts {
		for _, every := range []int{0, 1, 2, 3, 50} {
			show(someFlags(n, every))
		}
		if n > 0 {
			first, last := make([]bool, n), make([]bool, n)
			first[0], last[n-1] = true, true
			show(first)
			show(last)
		}
	}
}

func TestRankCountsBelow(t *testing.T) {
	eachBitmap(func(flags []bool) {
		words, count := bitmap(flags), 0
		// Of the longest bitmaps only places around the edges of words: Rank reads all that is below.
		for i := 0; i <= len(flags); i++ {
			if len(flags) < 1000 || i%64 < 2 && i%640 < 200 || i >= len(flags)-2 {
				if got := bitvec.Rank(words, len(flags), i); got != count {
					t.Fatalf("Rank of %d bits at %d: %d, want %d", len(flags), i, got, count)
				}
			}
			if i < len(flags) && flags[i] {
				count++
			}
		}
	})
}

func TestIndexesListsThePlaces(t *testing.T) {
	eachBitmap(func(flags []bool) {
		got, ok := bitvec.Indexes(bitmap(flags), len(flags))
		if !ok || !slices.Equal(got, placesOf(flags)) {
			t.Fatalf("Indexes of %d bits: %v, %v, want %v", len(flags), ok, got, placesOf(flags))
		}
	})
}

func TestDenseSetsThePlaces(t *testing.T) {
	eachBitmap(func(flags []bool) {
		got, ok := bitvec.Dense(placesOf(flags), len(flags))
		if !ok || !slices.Equal(got, bitmap(flags)) {
			t.Fatalf("Dense of %d bits: %v, %#x, want %#x", len(flags), ok, got, bitmap(flags))
		}
	})
}

func TestExpandLaysInnerIntoMask(t *testing.T) {
	eachBitmap(func(flags []bool) {
		places := placesOf(flags)
		for _, every := range []int{0, 1, 2, 7} {
			inner := someFlags(len(places), every)
			want := make([]bool, len(flags))
			for j, place := range places {
				want[place] = inner[j]
			}
			got, ok := bitvec.Expand(bitmap(flags), len(flags), bitmap(inner))
			if !ok || !slices.Equal(got, bitmap(want)) {
				t.Fatalf("Expand of %d in %d bits: %v, %#x, want %#x", len(places), len(flags), ok, got, bitmap(want))
			}
		}
	})
}

func TestEveryBitmapOfFewBits(t *testing.T) {
	for n := 1; n <= 8; n++ {
		for mask := range uint64(1) << n {
			idx, _ := bitvec.Indexes([]uint64{mask}, n)
			if bitvec.Rank([]uint64{mask}, n, n) != len(idx) {
				t.Fatalf("Rank and Indexes differ for %b", mask)
			}
			back, ok := bitvec.Dense(idx, n)
			if !ok || !slices.Equal(back, []uint64{mask}) {
				t.Fatalf("Dense of Indexes of %b: %b", mask, back)
			}
			if len(idx) > 0 {
				checkEveryInner(t, mask, n, idx)
			}
		}
	}
}

func checkEveryInner(t *testing.T, mask uint64, n int, idx []int) {
	t.Helper()
	for inner := range uint64(1) << len(idx) {
		want := uint64(0)
		for j, place := range idx {
			want |= inner >> j & 1 << place
		}
		got, ok := bitvec.Expand([]uint64{mask}, n, []uint64{inner})
		if !ok || !slices.Equal(got, []uint64{want}) {
			t.Fatalf("Expand(%b, %d, %b): %b %v, want %b", mask, n, inner, got, ok, want)
		}
	}
	over := uint64(1) << len(idx)
	if got, ok := bitvec.Expand([]uint64{mask}, n, []uint64{over}); ok || len(got) != 0 {
		t.Fatalf("Expand(%b, %d, %b) is not refused", mask, n, over)
	}
}

// refusesBitmap asks every call that takes a bitmap of n bits. What Expand gets as inner does not matter.
func refusesBitmap(t *testing.T, words []uint64, n int) {
	t.Helper()
	for _, i := range []int{0, n, 1, -1} {
		if got := bitvec.Rank(words, n, i); got != -1 {
			t.Errorf("Rank(%d words, %d, %d): %d", len(words), n, i, got)
		}
	}
	if got, ok := bitvec.Indexes(words, n); ok || len(got) != 0 {
		t.Errorf("Indexes(%d words, %d) is not refused", len(words), n)
	}
	for _, inner := range [][]uint64{nil, {0}, {1}, words} {
		if got, ok := bitvec.Expand(words, n, inner); ok || len(got) != 0 {
			t.Errorf("Expand(%d words, %d, %#x) is not refused", len(words), n, inner)
		}
	}
}

func TestNoBitmapByItsLength(t *testing.T) {
	for _, n := range bitCounts {
		words := make([]uint64, (n+63)/64)
		refusesBitmap(t, append(words, 0), n)
		if n > 0 {
			refusesBitmap(t, words[1:], n)
			refusesBitmap(t, nil, n)
		}
	}
}

func TestNoBitmapByABitAtTheEndOrBeyond(t *testing.T) {
	for n := 1; n < 200; n++ {
		for place := n; place < (n+63)/64*64; place++ {
			words := make([]uint64, (n+63)/64)
			words[place/64] = 1 << (place % 64)
			refusesBitmap(t, words, n)
			words[0] |= 1
			refusesBitmap(t, words, n)
		}
	}
}

func TestNoBitmapByACountOutOfRange(t *testing.T) {
	for _, n := range append([]int{api.MaxRows + 1, api.MaxRows + 64, 1 << 40}, offLimits...) {
		refusesBitmap(t, nil, n)
		refusesBitmap(t, []uint64{0}, n)
		refusesBitmap(t, make([]uint64, api.MaxRows/64+1), n)
		if got, ok := bitvec.Dense(nil, n); ok || len(got) != 0 {
			t.Errorf("Dense of nothing in %d bits is not refused", n)
		}
		if got, ok := bitvec.Dense([]int{0}, n); ok || len(got) != 0 {
			t.Errorf("Dense of place 0 in %d bits is not refused", n)
		}
	}
}

func TestRankRefusesPlacesOutOfRange(t *testing.T) {
	for _, n := range bitCounts {
		words := make([]uint64, (n+63)/64)
		for _, i := range append([]int{n + 1, n + 64, 1 << 40}, offLimits...) {
			if got := bitvec.Rank(words, n, i); got != -1 {
				t.Errorf("Rank of %d bits at %d: %d", n, i, got)
			}
		}
	}
}

func TestDenseRefusesWhatIsNotStrictlyAscending(t *testing.T) {
	for _, idx := range [][]int{
		{0, 0}, {5, 5}, {99, 99}, {1, 0}, {63, 62}, {64, 63}, {0, 1, 1}, {0, 2, 1}, {3, 4, 5, 0}, {98, 99, 99},
	} {
		if got, ok := bitvec.Dense(idx, 100); ok || len(got) != 0 {
			t.Errorf("Dense(%v, 100) is not refused", idx)
		}
	}
}

func TestDenseRefusesPlacesOutOfRange(t *testing.T) {
	for _, n := range bitCounts {
		for _, place := range append([]int{n, n + 1, (n + 63) / 64 * 64, 1 << 40}, offLimits...) {
			for _, idx := range [][]int{{place}, {place, place + 1}, {place - 1, place}} {
				if got, ok := bitvec.Dense(idx, n); ok || len(got) != 0 {
					t.Errorf("Dense(%v, %d) is not refused", idx, n)
				}
			}
		}
	}
}

func TestExpandRefusesInner(t *testing.T) {
	eachBitmap(func(flags []bool) {
		count := len(placesOf(flags))
		fit := make([]uint64, (count+63)/64)
		wrong := [][]uint64{append(slices.Clone(fit), 0)}
		if count > 0 {
			wrong = append(wrong, nil, fit[1:])
		}
		if count%64 != 0 {
			over := slices.Clone(fit)
			over[count/64] = 1 << (count % 64)
			wrong = append(wrong, over)
		}
		for _, inner := range wrong {
			if got, ok := bitvec.Expand(bitmap(flags), len(flags), inner); ok || len(got) != 0 {
				t.Errorf("Expand of %d words in %d set bits of %d is not refused", len(inner), count, len(flags))
			}
		}
	})
}
