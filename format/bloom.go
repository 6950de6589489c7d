package format

import "colscan/api"

// FNV-1a with 64 bits.
const (
	hashStart = 14695981039346656037
	hashPrime = 1099511628211
)

// isFilter tells whether there is a filter of so many words and hashes.
func isFilter(words int, hashes int) bool {
	return words >= 1 && words <= api.MaxBloom && hashes >= 1 && hashes <= api.MaxHashes
}

// isFilterOrNone tells whether a chunk may have a filter of so many words and hashes; none has 0 of both.
func isFilterOrNone(words int, hashes int) bool {
	return words == 0 && hashes == 0 || isFilter(words, hashes)
}

// hashOf is the hash of a value of the kind.
func hashOf(kind int, c api.Cell) uint64 {
	if kind == api.KindStr {
		return hashStr(c.Str)
	}
	return hashInt(uint64(c.Int))
}

func hashInt(n uint64) uint64 {
	hash := uint64(hashStart)
	for i := range 8 {
		hash = hashByte(hash, byte(n>>uint(8*i)))
	}
	return hash
}

func hashStr(s string) uint64 {
	hash := uint64(hashStart)
	for i := range len(s) {
		hash = hashByte(hash, s[i])
	}
	return hash
}

func hashByte(hash uint64, b byte) uint64 {
	return (hash ^ uint64(b)) * hashPrime
}

// place is where bit number i of a hash lies in a filter of so many words.
func place(hash uint64, i int, words int) int {
	start := hash & 0xFFFFFFFF
	step := hash>>32 | 1
	return int((start + uint64(i)*step) % uint64(64*words))
}

func addHash(bloom []uint64, hashes int, hash uint64) {
	for i := range hashes {
		p := place(hash, i, len(bloom))
		bloom[p/64] |= uint64(1) << uint(p%64)
	}
}

func hasHash(bloom []uint64, hashes int, hash uint64) bool {
	for i := range hashes {
		p := place(hash, i, len(bloom))
		if bloom[p/64]>>uint(p%64)&1 == 0 {
			return false
		}
	}
	return true
}
