package layout

import (
	"crypto/hmac"
	"crypto/sha256"
	"slices"
	"testing"

	"hallmark/api"
)

func TestHeadBytes(t *testing.T) {
	for _, sectors := range []int{1, 40, 255, 256, 0x1234, 0xffff} {
		for _, keySize := range []int{0, 3, 64, 65, 100} {
			h := Head{Sectors: sectors, Salt: [api.SaltSize]byte([]byte("saltsalt"))}
			for i := range h.Root {
				h.Root[i] = byte(200 + i)
			}
			key := slices.Repeat([]byte{7}, keySize)
			want := append([]byte("hall"), byte(sectors%256), byte(sectors/256))
			want = append(append(want, h.Salt[:]...), h.Root[:]...)
			mac := hmac.New(sha256.New, key)
			mac.Write(want)
			want = append(mac.Sum(want), make([]byte, 50)...)
			if got := h.Bytes(key); !slices.Equal(got[:], want) {
				t.Errorf("%d sectors, a key of %d bytes: %x, want %x", sectors, keySize, got, want)
			}
		}
	}
}

func madeHead() Head {
	h := Head{Sectors: 5, Salt: [api.SaltSize]byte([]byte("saltsalt"))}
	for i := range h.Root {
		h.Root[i] = byte(100 + i)
	}
	return h
}

func TestHeadOf(t *testing.T) {
	for sectors := range 1 << 16 {
		if sectors > 300 && sectors%256 > 42 {
			continue
		}
		h := madeHead()
		h.Sectors = sectors
		whole := h.Bytes([]byte("key"))
		got, err := HeadOf([]byte("key"), whole[:])
		if sectors < 1 || sectors > api.MaxSectors {
			if got != (Head{}) || err != api.ErrHead {
				t.Errorf("a head of %d sectors: %v, %v", sectors, got, err)
			}
		} else if got != h || err != nil {
			t.Errorf("a head of %d sectors: %v, %v", sectors, got, err)
		}
	}
}

func TestHeadOfChangedBytes(t *testing.T) {
	made := madeHead().Bytes([]byte("key"))
	for i := range made {
		for bit := range 8 {
			changed := made
			changed[i] ^= 1 << bit
			if got, err := HeadOf([]byte("key"), changed[:]); got != (Head{}) || err != api.ErrHead {
				t.Errorf("the bit %d of the byte %d is another: %v, %v", bit, i, got, err)
			}
		}
	}
}

func TestHeadOfShortDisk(t *testing.T) {
	made := madeHead().Bytes([]byte("key"))
	for size := range made {
		if got, err := HeadOf([]byte("key"), made[:size]); got != (Head{}) || err != api.ErrHead {
			t.Errorf("of %d bytes alone: %v, %v", size, got, err)
		}
	}
	if _, err := HeadOf([]byte("key"), append(made[:], 1, 2, 3)); err != nil {
		t.Errorf("with more behind it: %v", err)
	}
}

func TestHeadOfAnotherKey(t *testing.T) {
	made := madeHead().Bytes([]byte("key"))
	for _, key := range []string{"", "ke", "kez", "keyy", "Key"} {
		if got, err := HeadOf([]byte(key), made[:]); got != (Head{}) || err != api.ErrHead {
			t.Errorf("under %q: %v, %v", key, got, err)
		}
	}
}

func TestHeadBytesLeavesTheKey(t *testing.T) {
	room := slices.Repeat([]byte{9}, 300)
	Head{Sectors: 1}.Bytes(room[100:200])
	if !slices.Equal(room, slices.Repeat([]byte{9}, 300)) {
		t.Errorf("the key, or what stands about it, was written into")
	}
}
