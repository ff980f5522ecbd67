package hallmark_test

import (
	"bytes"
	"crypto/hmac"
	"crypto/sha256"
	"encoding/hex"
	"strings"
	"testing"

	"hallmark/hallmark"
)

func checkTag(t *testing.T, what string, key, b []byte) {
	t.Helper()
	h := hmac.New(sha256.New, key)
	h.Write(b)
	want := [32]byte(h.Sum(nil))
	if got := hallmark.Tag(key, b); got != want {
		t.Errorf("P4: Tag of %d bytes under %s (%d bytes) = %x, want %x", len(b), what, len(key), got, want)
	}
}

func TestP4Known(t *testing.T) {
	counted, _ := hex.DecodeString("0102030405060708090a0b0c0d0e0f10111213141516171819")
	for _, c := range []struct{ key, text, want string }{
		{strings.Repeat("\x0b", 20), "Hi There", "b0344c61d8db38535ca8afceaf0bf12b881dc200c9833da726e9376c2e32cff7"},
		{"Jefe", "what do ya want for nothing?", "5bdcc146bf60754e6a042426089575c75a003f089d2739839dec58b964ec3843"},
		{strings.Repeat("\xaa", 20), strings.Repeat("\xdd", 50), "773ea91e36800e46854db8ebd09181a72959098b3ef8c122d9635514ced565fe"},
		{string(counted), strings.Repeat("\xcd", 50), "82558a389a443c0ea4cc819899f2083a85f0faa3e578f8077a2e3ff46729665b"},
		{strings.Repeat("\xaa", 131), "Test Using Larger Than Block-Size Key - Hash Key First", "60e431591ee0b67f0d8a26aacbf5b77f8e0bc6213728c5140546040f0ee37f54"},
		{"", "", "b613679a0814d9ec772f95d778c35fc5ff1697c493715653c6c712144292c5ad"},
	} {
		if got := hallmark.Tag([]byte(c.key), []byte(c.text)); hex.EncodeToString(got[:]) != c.want {
			t.Errorf("P4: Tag(%q, %q) = %x, want %s", c.key, c.text, got, c.want)
		}
	}
}

func TestP4Nothing(t *testing.T) {
	key, b := []byte("key"), []byte("bytes")
	for _, none := range [][]byte{nil, {}, []byte("abc")[:0]} {
		checkTag(t, "no key", none, b)
		checkTag(t, "a key", key, none)
		checkTag(t, "no key", none, none)
	}
}

func TestP4Edges(t *testing.T) {
	for _, k := range []int{0, 1, 31, 32, 33, 55, 56, 62, 63, 64, 65, 66, 99, 100, 101, 127, 128, 129, 300, 5000} {
		for _, n := range edges() {
			checkTag(t, "a key of mixed bytes", mixedBytes(k, 1), mixedBytes(n, 2))
		}
	}
}

func TestP4KeysOfOneByte(t *testing.T) {
	for x := range 256 {
		for _, k := range []int{1, 64, 65} {
			checkTag(t, "a key of one byte, over and over", bytes.Repeat([]byte{byte(x)}, k), []byte("abc"))
		}
	}
}

// A key of up to 64 bytes is made longer by bytes 0, one of more is its digest.
func TestP4KeyIsFilledOrShortened(t *testing.T) {
	b, short, long := []byte("abc"), mixedBytes(10, 4), mixedBytes(65, 4)
	filled := append(bytes.Clone(short), make([]byte, 54)...)
	if hallmark.Tag(short, b) != hallmark.Tag(filled, b) {
		t.Errorf("P4: a key of 10 bytes is not filled to 64 by bytes 0")
	}
	if hallmark.Tag(short, b) == hallmark.Tag(append(filled, 0), b) {
		t.Errorf("P4: a key of 65 bytes is taken as one of 64")
	}
	shortened := hallmark.Digest(long)
	if hallmark.Tag(long, b) != hallmark.Tag(shortened[:], b) {
		t.Errorf("P4: a key of 65 bytes is not its digest")
	}
	whole := hallmark.Digest(long[:64])
	if hallmark.Tag(long[:64], b) == hallmark.Tag(whole[:], b) {
		t.Errorf("P4: a key of 64 bytes is taken for its digest")
	}
}

func FuzzP4(f *testing.F) {
	f.Add([]byte(nil), []byte(nil))
	f.Add(make([]byte, 64), []byte("abc"))
	f.Add(make([]byte, 65), make([]byte, 56))
	f.Fuzz(func(t *testing.T, key, b []byte) { checkTag(t, "a key", key, b) })
}
