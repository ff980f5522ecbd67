package layout

import (
	"crypto/hmac"
	"crypto/sha256"
	"slices"
	"testing"

	"hallmark/api"
)

func TestHeadBytes(t *testing.T) {
	for _, sectors := range []int{1, 40, 255, 256, 0x1234, 0xffff} {
		for _, keySize := range []int{0, 3, 64, 65, 100} {
			h := Head{Sectors: sectors, Salt: [api.SaltSize]byte([]byte("saltsalt"))}
			for i := range h.Root {
				h.Root[i] = byte(200 + i)
			}
			key := slices.Repeat([]byte{7}, keySize)
			want := append([]byte("hall"), byte(sectors%256), byte(sectors/256))
			want = append(append(want, h.Salt[:]...), h.Root[:]...)
			mac := hmac.New(sha256.New, key)
			mac.Write(want)
			want = append(mac.Sum(want), make([]byte, 50)...)
			if got := h.Bytes(key); !slices.Equal(got[:], want) {
				t.Errorf("%d sectors, a key of %d bytes: %x, want %x", sectors, keySize, got, want)
			}
		}
	}
}

func TestHeadBytesLeavesTheKey(t *testing.T) {
	room := slices.Repeat([]byte{9}, 300)
	Head{Sectors: 1}.Bytes(room[100:200])
	if !slices.Equal(room, slices.Repeat([]byte{9}, 300)) {
		t.Errorf("the key, or what stands about it, was written into")
	}
}
