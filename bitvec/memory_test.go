package bitvec_test

import (
	"math"
	"slices"
	"testing"

	"colscan/api"
	"colscan/bitvec"
)

const full = math.MaxUint64

// checkMemory runs a call that cuts its arguments out of array, which reaches behind each of them. Nothing
// that is done by the call, or to its answer, may be seen in array or in another answer.
func checkMemory[A, R comparable](t *testing.T, name string, array []A, mark R, call func([]A) ([]R, bool)) {
	t.Helper()
	kept := slices.Clone(array)
	first, ok := call(array)
	if !ok {
		t.Fatalf("%s is refused", name)
	}
	want := slices.Clone(first)
	second, _ := call(array)
	if !slices.Equal(second, want) {
		t.Errorf("%s answers otherwise the second time: %v, first %v", name, second, want)
	}
	_ = append(first, mark)
	_ = append(first, slices.Repeat([]R{mark}, len(array)+100)...)
	for i := range first {
		first[i] = mark
	}
	if !slices.Equal(array, kept) {
		t.Errorf("%s: the arguments, or what lies behind them, are %v and were %v", name, array, kept)
	}
	if !slices.Equal(second, want) {
		t.Errorf("%s: two answers share memory", name)
	}
	third, _ := call(array)
	if !slices.Equal(third, want) {
		t.Errorf("%s answers otherwise after its answer was written into: %v, first %v", name, third, want)
	}
}

func TestLanesAreNewMemory(t *testing.T) {
	for _, width := range []int{0, 1, 20, 63, 64} {
		for _, n := range []int{0, 1, 5} {
			vals := append(make([]uint64, n), 5, 6, 7)
			checkMemory(t, "Pack", vals, 99, func(array []uint64) ([]uint64, bool) {
				return bitvec.Pack(array[:n], width)
			})
			packed := packing(make([]uint64, n), width)
			count := len(packed)
			words := append(packed, 5, 6, 7)
			checkMemory(t, "Unpack", words, 99, func(array []uint64) ([]uint64, bool) {
				return bitvec.Unpack(array[:count], width, n)
			})
			for op := api.OpEq; op <= api.OpGe; op++ {
				checkMemory(t, "Compare", words, 99, func(array []uint64) ([]uint64, bool) {
					return bitvec.Compare(array[:count], width, n, op, 1)
				})
			}
		}
	}
}

func TestAnswersThatEqualAnArgumentAreNewMemory(t *testing.T) {
	array := []uint64{full, full, 5, 6, 7}
	checkMemory(t, "Pack", array, 99, func(array []uint64) ([]uint64, bool) {
		return bitvec.Pack(array[:2], 64)
	})
	checkMemory(t, "Unpack", array, 99, func(array []uint64) ([]uint64, bool) {
		return bitvec.Unpack(array[:2], 64, 2)
	})
	for op, c := range map[int]uint64{api.OpEq: 1, api.OpNe: 0, api.OpGt: 0, api.OpGe: 1} {
		checkMemory(t, "Compare", array, 99, func(array []uint64) ([]uint64, bool) {
			return bitvec.Compare(array[:2], 1, 128, op, c)
		})
	}
	checkMemory(t, "Expand, one list twice", array, 99, func(array []uint64) ([]uint64, bool) {
		return bitvec.Expand(array[:2], 128, array[:2])
	})
}

func TestBitmapsSideBySideAreNewMemory(t *testing.T) {
	for name, array := range map[string][]uint64{
		"full mask":  {full, full, 8, 9, 5, 6, 7},
		"full inner": {15 << 60, 15 << 60, 255, 5, 6, 7},
		"no mask":    {0, 0, 5, 6, 7},
		"one bit":    {0, 1, 1, 5, 6, 7},
	} {
		count := (bitvec.Rank(array[:2], 128, 128) + 63) / 64
		checkMemory(t, "Expand, "+name, array, 99, func(array []uint64) ([]uint64, bool) {
			return bitvec.Expand(array[:2], 128, array[2:2+count])
		})
		checkMemory(t, "Indexes, "+name, array, 9999, func(array []uint64) ([]int, bool) {
			return bitvec.Indexes(array[:2], 128)
		})
	}
	checkMemory(t, "Expand of no bits", []uint64{5, 6, 7}, 99, func(array []uint64) ([]uint64, bool) {
		return bitvec.Expand(array[:0], 0, array[1:1])
	})
	checkMemory(t, "Indexes of no bits", []uint64{5, 6, 7}, 9999, func(array []uint64) ([]int, bool) {
		return bitvec.Indexes(array[:0], 0)
	})
}

func TestDenseIsNewMemory(t *testing.T) {
	for _, count := range []int{0, 1, 3} {
		for _, n := range []int{64, 65, 200} {
			checkMemory(t, "Dense", []int{1, 4, 63, 2, 2, 2}, 99, func(array []int) ([]uint64, bool) {
				return bitvec.Dense(array[:count], n)
			})
		}
	}
	checkMemory(t, "Dense of no bits", []int{7, 8}, 99, func(array []int) ([]uint64, bool) {
		return bitvec.Dense(array[:0], 0)
	})
}

func TestRefusedCallsLeaveTheirArguments(t *testing.T) {
	array := []uint64{3, 1 << 63, 5, 6, 7}
	kept := slices.Clone(array)
	bitvec.Pack(array[:2], 2)
	bitvec.Pack(array[:2], 65)
	bitvec.Unpack(array[:2], 30, 4)
	bitvec.Compare(array[:2], 30, 4, api.OpEq, 3)
	bitvec.Compare(array[:2], 64, 2, api.OpIn, 3)
	bitvec.Indexes(array[:2], 70)
	bitvec.Expand(array[:2], 128, array[2:2])
	bitvec.Expand(array[:2], 70, array[2:3])
	if bitvec.Rank(array[:2], 70, 3) != -1 || bitvec.Rank(array[:2], 128, 127) != 2 {
		t.Error("Rank")
	}
	if !slices.Equal(array, kept) {
		t.Errorf("the arguments are %v and were %v", array, kept)
	}
	places := []int{1, 1, 5}
	bitvec.Dense(places[:2], 3)
	if !slices.Equal(places, []int{1, 1, 5}) {
		t.Errorf("the places are %v", places)
	}
}
