package wire

// Reader hands out bytes from front to back. Once more was asked of it than was left it is short: from then on
// it hands out nothing, so no list is longer than the bytes that are there.
type Reader struct {
	left  []byte
	short bool
}

// NewReader begins at the front of b.
func NewReader(b []byte) *Reader {
	return &Reader{left: b}
}

// Short tells whether more was asked for than there was.
func (r *Reader) Short() bool {
	return r.short
}

// Left is how many bytes were not handed out yet.
func (r *Reader) Left() int {
	return len(r.left)
}

// Take hands out the next n bytes. They are the reader's own: not to be kept, nor written into.
func (r *Reader) Take(n int) []byte {
	if n < 0 || n > len(r.left) {
		r.left, r.short = nil, true
		return nil
	}
	taken := r.left[:n:n]
	r.left = r.left[n:]
	return taken
}

// Byte hands out one byte as a number, or 0 if the reader is short.
func (r *Reader) Byte() int {
	return int(number(r.Take(1)))
}

// U32 hands out a u32, or 0 if the reader is short.
func (r *Reader) U32() int {
	return int(number(r.Take(4)))
}

// U64 hands out a u64, or 0 if the reader is short.
func (r *Reader) U64() uint64 {
	return number(r.Take(8))
}

// U32s hands out so many u32, or none if the reader is short.
func (r *Reader) U32s(count int) []int {
	b := r.Take(4 * count)
	list := make([]int, len(b)/4)
	for i := range list {
		list[i] = int(number(b[4*i : 4*i+4]))
	}
	return list
}

// U64s hands out so many u64, or none if the reader is short.
func (r *Reader) U64s(count int) []uint64 {
	b := r.Take(8 * count)
	list := make([]uint64, len(b)/8)
	for i := range list {
		list[i] = number(b[8*i : 8*i+8])
	}
	return list
}

func number(b []byte) uint64 {
	n := uint64(0)
	for i, v := range b {
		n |= uint64(v) << uint(8*i)
	}
	return n
}
