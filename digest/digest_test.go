package digest

import (
	"crypto/sha256"
	"encoding/binary"
	"testing"
)

func TestOfPartsIsOfThemAsOne(t *testing.T) {
	whole := make([]byte, 200)
	for i := range whole {
		whole[i] = byte(i * 7)
	}
	want := sha256.Sum256(whole)
	for cut := range len(whole) + 1 {
		if got := Of(whole[:cut], whole[cut:]); got != want {
			t.Errorf("cut at %d: %x, want %x", cut, got, want)
		}
		if got := Of(nil, whole[:cut], []byte{}, whole[cut:], nil); got != want {
			t.Errorf("cut at %d, with parts of nothing: %x, want %x", cut, got, want)
		}
	}
}

func TestOfNoParts(t *testing.T) {
	if got := Of(); got != sha256.Sum256(nil) {
		t.Errorf("Of() = %x", got)
	}
}

func TestMarkIsOfSaltAndSector(t *testing.T) {
	salt, sector := [8]byte([]byte("saltsalt")), []byte("a sector of this disk")
	if got, want := Mark(salt, sector), sha256.Sum256([]byte("saltsalta sector of this disk")); got != want {
		t.Errorf("Mark = %x, want %x", got, want)
	}
}

// Lists too long to be laid out in a test: as if so many bytes, all of them in
// whole blocks, had come in. The last block then is the filling alone.
func TestFinishTellsEveryByteOfTheLength(t *testing.T) {
	for _, length := range []uint64{0, 64, 1 << 29, 1 << 37, 1 << 45, 1 << 53, 1<<61 - 64, 0x0123456789abcdc0} {
		r := running{state: fixed.first, length: length}
		last := [blockSize]byte{128}
		binary.BigEndian.PutUint64(last[blockSize-lengthSize:], 8*length)
		if got, want := r.finish(), spread(stir(fixed.first, last)); got != want {
			t.Errorf("behind %d bytes: %x, want %x", length, got, want)
		}
	}
}
