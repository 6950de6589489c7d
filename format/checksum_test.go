package format_test

import (
	"hash/crc32"
	"testing"

	"colscan/format"
)

func TestChecksumOfTheDocumentsExamples(t *testing.T) {
	if got := format.Checksum([]byte("123456789")); got != 0xCBF43926 {
		t.Errorf("of the nine letters: %#x", got)
	}
	if got := format.Checksum(nil); got != 0 {
		t.Errorf("of nothing: %#x", got)
	}
}

func checkSum(t *testing.T, b []byte) {
	t.Helper()
	if got, want := format.Checksum(b), crc32.ChecksumIEEE(b); got != want {
		t.Fatalf("Checksum of %d bytes: %#x, want %#x", len(b), got, want)
	}
}

func TestChecksumOfEachByteAndOfManyBytes(t *testing.T) {
	for v := range 256 {
		checkSum(t, []byte{byte(v)})
		checkSum(t, []byte{0, byte(v), 0, byte(v)})
	}
	long := u64(manyNumbers(5000, 3)...)
	for n := range 300 {
		checkSum(t, long[n:2*n])
		checkSum(t, make([]byte, n))
	}
	checkSum(t, long)
}
