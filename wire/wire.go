// Package wire reads and writes numbers as bytes, little-endian.
package wire

// AppendU32 appends n, which is below 2^32, as a u32.
func AppendU32(b []byte, n int) []byte {
	return appendNumber(b, uint64(n), 4)
}

// AppendU64 appends n as a u64.
func AppendU64(b []byte, n uint64) []byte {
	return appendNumber(b, n, 8)
}

// AppendU32s appends each number of the list as a u32.
func AppendU32s(b []byte, list []int) []byte {
	for _, n := range list {
		b = AppendU32(b, n)
	}
	return b
}

// AppendU64s appends each number of the list as a u64.
func AppendU64s(b []byte, list []uint64) []byte {
	for _, n := range list {
		b = AppendU64(b, n)
	}
	return b
}

func appendNumber(b []byte, n uint64, size int) []byte {
	for i := range size {
		b = append(b, byte(n>>uint(8*i)))
	}
	return b
}
