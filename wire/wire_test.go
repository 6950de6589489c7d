package wire_test

import (
	"bytes"
	"math"
	"slices"
	"testing"

	"colscan/wire"
)

func TestNumbersAreLittleEndian(t *testing.T) {
	b := wire.AppendU32([]byte{9}, 0x04030201)
	b = wire.AppendU64(b, 0x8877665544332211)
	if !bytes.Equal(b, []byte{9, 1, 2, 3, 4, 0x11, 0x22, 0x33, 0x44, 0x55, 0x66, 0x77, 0x88}) {
		t.Errorf("% x", b)
	}
	r := wire.NewReader(b)
	if r.Byte() != 9 || r.U32() != 0x04030201 || r.U64() != 0x8877665544332211 || r.Short() || r.Left() != 0 {
		t.Error("the numbers do not come back")
	}
}

func TestListsComeBack(t *testing.T) {
	small, large := []int{0, 1, 256, math.MaxUint32}, []uint64{0, 1 << 63, math.MaxUint64}
	b := wire.AppendU64s(wire.AppendU32s(nil, small), large)
	if len(b) != 4*len(small)+8*len(large) {
		t.Fatalf("%d bytes", len(b))
	}
	r := wire.NewReader(b)
	if got := r.U32s(len(small)); !slices.Equal(got, small) {
		t.Errorf("u32: %v", got)
	}
	if r.Left() != 8*len(large) {
		t.Errorf("left: %d", r.Left())
	}
	if got := r.U64s(len(large)); !slices.Equal(got, large) {
		t.Errorf("u64: %v", got)
	}
	if len(r.U32s(0)) != 0 || len(r.U64s(0)) != 0 || r.Short() {
		t.Error("empty lists of an empty reader")
	}
}

func TestAShortReaderStaysShort(t *testing.T) {
	for name, ask := range map[string]func(r *wire.Reader) int{
		"bytes":       func(r *wire.Reader) int { return len(r.Take(4)) },
		"no bytes":    func(r *wire.Reader) int { return len(r.Take(-1)) },
		"u32":         func(r *wire.Reader) int { return r.U32() },
		"u64":         func(r *wire.Reader) int { return int(r.U64()) },
		"u32 list":    func(r *wire.Reader) int { return len(r.U32s(1)) },
		"u64 list":    func(r *wire.Reader) int { return len(r.U64s(1)) },
		"many u32":    func(r *wire.Reader) int { return len(r.U32s(math.MaxUint32)) },
		"many u64":    func(r *wire.Reader) int { return len(r.U64s(math.MaxUint32)) },
		"no u32 list": func(r *wire.Reader) int { return len(r.U32s(-1)) },
		"no u64 list": func(r *wire.Reader) int { return len(r.U64s(-1)) },
	} {
		r := wire.NewReader([]byte{1, 2, 3})
		if ask(r) != 0 || !r.Short() || r.Left() != 0 || r.Byte() != 0 || len(r.Take(1)) != 0 || !r.Short() {
			t.Errorf("%s: more was handed out than there is", name)
		}
	}
}

func TestWhatIsTakenEndsWithoutRoom(t *testing.T) {
	b := []byte{1, 2, 3}
	taken := wire.NewReader(b).Take(1)
	_ = append(taken, 9)
	if !bytes.Equal(b, []byte{1, 2, 3}) {
		t.Errorf("% x", b)
	}
}
