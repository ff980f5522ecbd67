package hallmark_test

import (
	"bytes"
	"crypto/sha256"
	"encoding/hex"
	"slices"
	"strings"
	"testing"

	"hallmark/hallmark"
)

// edges are the lengths about which the filling of a block changes.
func edges() []int {
	lengths := []int{0, 1, 2, 3, 4, 31, 32, 33}
	for blocks := 1; blocks <= 5; blocks++ {
		for _, off := range []int{-10, -9, -8, -7, -1, 0, 1, 2} {
			lengths = append(lengths, 64*blocks+off)
		}
	}
	return lengths
}

// mixedBytes makes n bytes with no short pattern in them, others for each seed.
func mixedBytes(n int, seed uint32) []byte {
	b := make([]byte, n)
	for i := range b {
		seed = seed*1664525 + 1013904223
		b[i] = byte(seed >> 24)
	}
	return b
}

func checkDigest(t *testing.T, what string, b []byte) {
	t.Helper()
	if got, want := hallmark.Digest(b), sha256.Sum256(b); got != want {
		t.Errorf("P3: Digest of %s (%d bytes) = %x, want %x", what, len(b), got, want)
	}
}

func TestP3Known(t *testing.T) {
	for _, c := range []struct{ text, want string }{
		{"", "e3b0c44298fc1c149afbf4c8996fb92427ae41e4649b934ca495991b7852b855"},
		{"abc", "ba7816bf8f01cfea414140de5dae2223b00361a396177a9cb410ff61f20015ad"},
		{"abcdbcdecdefdefgefghfghighijhijkijkljklmklmnlmnomnopnopq", "248d6a61d20638b8e5c026930c3e6039a33ce45964ff2167f6ecedd419db06c1"},
		{strings.Repeat("a", 1000000), "cdc76e5c9914fb9281a1c7e284d73e67f1809a48a497200e046d39ccc7112cd0"},
	} {
		if got := hallmark.Digest([]byte(c.text)); hex.EncodeToString(got[:]) != c.want {
			t.Errorf("P3: Digest of %d bytes that are known = %x, want %s", len(c.text), got, c.want)
		}
	}
}

func TestP3Nothing(t *testing.T) {
	checkDigest(t, "nil", nil)
	checkDigest(t, "an empty list", []byte{})
	checkDigest(t, "an empty list with spare room", []byte("abc")[:0])
}

func TestP3Edges(t *testing.T) {
	for _, n := range edges() {
		checkDigest(t, "bytes 0", make([]byte, n))
		checkDigest(t, "bytes 255", bytes.Repeat([]byte{255}, n))
		checkDigest(t, "bytes 128", bytes.Repeat([]byte{128}, n))
		checkDigest(t, "mixed bytes", mixedBytes(n, uint32(n)))
	}
}

func TestP3AllLengths(t *testing.T) {
	for n := range 600 {
		checkDigest(t, "mixed bytes", mixedBytes(n, 9))
	}
}

// More than 65535 and than 2 to the 24 bits: the higher bytes of the length.
func TestP3LongLists(t *testing.T) {
	for _, n := range []int{8191, 8192, 8193, 1 << 16, 1<<21 - 1, 1 << 21, 1<<21 + 57} {
		checkDigest(t, "mixed bytes", mixedBytes(n, 3))
	}
}

func TestP3EachByteCounts(t *testing.T) {
	for _, n := range []int{1, 55, 56, 64, 65, 130} {
		b := mixedBytes(n, 5)
		before := hallmark.Digest(b)
		for i := range b {
			b[i] ^= 1
			if hallmark.Digest(b) == before {
				t.Errorf("P3: of %d bytes, the byte %d does not count", n, i)
			}
			b[i] ^= 1
		}
	}
}

func FuzzP3(f *testing.F) {
	f.Add([]byte(nil))
	f.Add([]byte("abc"))
	f.Add(slices.Repeat([]byte{0}, 119))
	f.Fuzz(func(t *testing.T, b []byte) { checkDigest(t, "bytes", b) })
}
