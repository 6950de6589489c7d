package codec

import (
	"slices"

	"colscan/api"
	"colscan/bitvec"
	"colscan/chunk"
	"colscan/wire"
)

// encode makes the body of cells of the kind, with a codec that is for it.
func encode[V chunk.Value](kind chunk.Kind[V], cells []api.Cell, codec int, width int) ([]byte, int) {
	vals, nulls := split(kind, cells)
	payload, width, fits := payloadOf(kind, vals, codec, width)
	if !fits {
		return nil, api.ErrCodecUnfit
	}
	body := []byte{byte(codec), byte(width)}
	body = wire.AppendU64s(body, nulls)
	return append(body, payload...), api.ErrNone
}

// split gives the values, and the bitmap of the NULLs.
func split[V chunk.Value](kind chunk.Kind[V], cells []api.Cell) ([]V, []uint64) {
	var vals []V
	var places []int
	for row, c := range cells {
		if c.Null {
			places = append(places, row)
		} else {
			vals = append(vals, kind.Value(c))
		}
	}
	nulls, _ := bitvec.Dense(places, len(cells))
	return vals, nulls
}

// payloadOf gives the payload and the width byte, or false if the values do not fit the codec.
func payloadOf[V chunk.Value](kind chunk.Kind[V], vals []V, codec int, width int) ([]byte, int, bool) {
	switch codec {
	case api.CodecPlain:
		return kind.AppendList(nil, vals), 0, true
	case api.CodecDict:
		return dictPayload(kind, vals)
	case api.CodecRuns:
		return runsPayload(kind, vals), 0, true
	case api.CodecFrame:
		payload, fits := framePayload(numbers(kind, vals), width)
		return payload, width, fits
	}
	payload, fits := packedPayload(numbers(kind, vals), width)
	return payload, width, fits
}

func dictPayload[V chunk.Value](kind chunk.Kind[V], vals []V) ([]byte, int, bool) {
	dict := slices.Clone(vals)
	slices.Sort(dict)
	dict = slices.Compact(dict)
	if len(dict) > api.MaxDict {
		return nil, 0, false
	}
	codes := make([]uint64, len(vals))
	for j, v := range vals {
		place, _ := slices.BinarySearch(dict, v)
		codes[j] = uint64(place)
	}
	width := chunk.Need(len(dict))
	lanes, _ := bitvec.Pack(codes, width)
	payload := wire.AppendU32(nil, len(dict))
	payload = kind.AppendList(payload, dict)
	return wire.AppendU64s(payload, lanes), width, true
}

func runsPayload[V chunk.Value](kind chunk.Kind[V], vals []V) []byte {
	var ends []int
	var runs []V
	for j, v := range vals {
		if j+1 == len(vals) || vals[j+1] != v {
			ends = append(ends, j+1)
			runs = append(runs, v)
		}
	}
	payload := wire.AppendU32(nil, len(ends))
	payload = wire.AppendU32s(payload, ends)
	return kind.AppendList(payload, runs)
}

// numbers gives the values of a kind whose values are integers.
func numbers[V chunk.Value](kind chunk.Kind[V], vals []V) []int64 {
	nums := make([]int64, len(vals))
	for j, v := range vals {
		nums[j] = kind.Cell(v).Int
	}
	return nums
}

func framePayload(nums []int64, width int) ([]byte, bool) {
	base := int64(0)
	if len(nums) > 0 {
		base = slices.Min(nums)
	}
	lanes, fits := packFrom(base, nums, width)
	if !fits {
		return nil, false
	}
	payload := wire.AppendU64(nil, uint64(base))
	return wire.AppendU64s(payload, lanes), true
}

func packedPayload(nums []int64, width int) ([]byte, bool) {
	if len(nums) > 0 && slices.Min(nums) < 0 {
		return nil, false
	}
	lanes, fits := packFrom(0, nums, width)
	if !fits {
		return nil, false
	}
	return wire.AppendU64s(nil, lanes), true
}

// packFrom packs how far each number lies above the base. The distance is right also where a signed subtraction
// would leave 64 bits.
func packFrom(base int64, nums []int64, width int) ([]uint64, bool) {
	offsets := make([]uint64, len(nums))
	for j, n := range nums {
		offsets[j] = uint64(n) - uint64(base)
	}
	return bitvec.Pack(offsets, width)
}
