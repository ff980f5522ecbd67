package hallmark_test

import (
	"bytes"
	"crypto/hmac"
	"crypto/sha256"
	"encoding/hex"
	"slices"
	"testing"

	"hallmark/api"
	"hallmark/hallmark"
)

// markOf is a sector's mark, by the library.
func markOf(salt, sector []byte) []byte {
	mark := sha256.Sum256(slices.Concat(salt, sector))
	return mark[:]
}

// treeOf is the levels of a disk, the data first, by the document.
func treeOf(salt, image []byte) [][]byte {
	levels := [][]byte{image}
	for below := image; len(levels) == 1 || len(below) > 64; levels = append(levels, below) {
		var level []byte
		for sector := range slices.Chunk(below, 64) {
			level = append(level, markOf(salt, sector)...)
		}
		if len(level)%64 == 32 {
			level = append(level, make([]byte, 32)...)
		}
		below = level
	}
	return levels
}

// parityOf is the parity of all sectors of the levels, by the document.
func parityOf(sectors []byte) []byte {
	var parity []byte
	for group := range slices.Chunk(sectors, 4*64) {
		sum := make([]byte, 64)
		for sector := range slices.Chunk(group, 64) {
			for i, x := range sector {
				sum[i] ^= x
			}
		}
		parity = append(parity, sum...)
	}
	return parity
}

// headOf is the head of a disk of n sectors, by the document.
func headOf(key, salt, root []byte, n int) []byte {
	head := slices.Concat([]byte{'h', 'a', 'l', 'l', byte(n), byte(n >> 8)}, salt, root)
	h := hmac.New(sha256.New, key)
	h.Write(head)
	return append(h.Sum(head), make([]byte, 128-4-2-8-32-32)...)
}

// diskOf is the disk of an image, by the document.
func diskOf(key, salt, image []byte) []byte {
	levels := treeOf(salt, image)
	root := markOf(salt, levels[len(levels)-1])
	sectors := slices.Concat(levels...)
	return slices.Concat(headOf(key, salt, root, len(image)/64), sectors, parityOf(sectors))
}

func checkBuild(t *testing.T, key, salt, image []byte) {
	t.Helper()
	got, err := hallmark.Build(key, salt, image)
	if err != nil {
		t.Errorf("P5: Build of %d bytes under a key of %d: %v", len(image), len(key), err)
		return
	}
	if want := diskOf(key, salt, image); !bytes.Equal(got, want) {
		t.Errorf("P5: Build of %d bytes under a key of %d: %d bytes that are not the disk's %d:\n%x\nwant\n%x", len(image), len(key), len(got), len(want), got, want)
	}
}

func checkRefused(t *testing.T, what string, key, salt, image []byte) {
	t.Helper()
	if disk, err := hallmark.Build(key, salt, image); disk != nil || err != api.ErrArg {
		t.Errorf("P5: Build by %s: %d bytes, %v, want nil and ErrArg", what, len(disk), err)
	}
}

// Disks that were reckoned by another program, told by their length and digest:
// so one fault in Build and in this test's own diskOf would still be seen.
func TestP5Known(t *testing.T) {
	for _, c := range []struct {
		sectors, key, size int
		digest             string
	}{
		{1, 0, 320, "056253ff11eb2992142148cfa69cb19eb1093320fcf2ecc18eea376c79016a7b"},
		{2, 3, 384, "d86ecd10f6e12683a7dc4eef7f61dd254d0e1d571fa1d494d57a780f856b3cb0"},
		{3, 64, 640, "f24e490b17aa4e7350d30af790d3a139029090f37c3fe634d0fea890cb325e9d"},
		{5, 65, 1024, "d6a51526f66631f45543e4991e8a041492b24888d65517edbdda99fe10cef64a"},
		{17, 99, 3136, "b658521f8f3f18f7818dba2d1e995aa6c68d8c524b732dea2c7ab6f71c72c211"},
		{40, 100, 6656, "6a2a450808133e523cdfd056d196fcefd5e6282153b5592c9e8a75d563b10697"},
	} {
		disk, err := hallmark.Build(mixedBytes(c.key, 21), mixedBytes(8, 22), mixedBytes(64*c.sectors, 23))
		digest := sha256.Sum256(disk)
		if err != nil || len(disk) != c.size || hex.EncodeToString(digest[:]) != c.digest {
			t.Errorf("P5: Build of %d sectors: %v, %d bytes of the digest %x, want %d of %s", c.sectors, err, len(disk), digest, c.size, c.digest)
		}
	}
}

func TestP5EveryCountOfSectors(t *testing.T) {
	for n := 1; n <= api.MaxSectors; n++ {
		for _, k := range []int{0, 1, 63, 64, 65, 99, 100} {
			checkBuild(t, mixedBytes(k, 24), mixedBytes(8, uint32(n)), mixedBytes(64*n, uint32(k)))
		}
	}
}

func TestP5EveryLengthOfKey(t *testing.T) {
	for k := range api.MaxKey + 1 {
		checkBuild(t, mixedBytes(k, 25), mixedBytes(8, 26), mixedBytes(64*3, 27))
	}
}

// Sectors that are alike have marks that are alike; a sector of bytes 0 has a
// mark, and is not what is left of a sector.
func TestP5PlainBytes(t *testing.T) {
	for n := 1; n <= api.MaxSectors; n++ {
		for _, x := range []byte{0, 1, 128, 255} {
			plain := func(count int) []byte { return bytes.Repeat([]byte{x}, count) }
			checkBuild(t, plain(100), plain(8), plain(64*n))
			checkBuild(t, nil, plain(8), plain(64*n))
		}
	}
}

func TestP5ListsOfNothing(t *testing.T) {
	for _, none := range [][]byte{nil, {}, []byte("abc")[:0]} {
		checkBuild(t, none, mixedBytes(8, 28), mixedBytes(64, 29))
		checkRefused(t, "no salt", []byte("key"), none, mixedBytes(64, 29))
		checkRefused(t, "no image", []byte("key"), mixedBytes(8, 28), none)
		checkRefused(t, "nothing at all", none, none, none)
	}
}

func TestP5KeyTooLong(t *testing.T) {
	for _, k := range []int{101, 102, 128, 1000, 1 << 20} {
		checkRefused(t, "a key too long", make([]byte, k), make([]byte, 8), make([]byte, 64))
	}
}

func TestP5SaltOfAnotherLength(t *testing.T) {
	for _, s := range []int{0, 1, 4, 7, 9, 16, 64, 1 << 20} {
		checkRefused(t, "such a salt", []byte("key"), make([]byte, s), make([]byte, 64))
	}
}

func TestP5ImageOfAnotherLength(t *testing.T) {
	const most = 64 * api.MaxSectors
	for size := range most + 200 {
		if size == 0 || size > most || size%64 != 0 {
			checkRefused(t, "such an image", []byte("key"), make([]byte, 8), make([]byte, size))
		}
	}
	checkRefused(t, "a great image", []byte("key"), make([]byte, 8), make([]byte, 1<<22))
	// As many sectors as two bytes tell, and one more: n must not wrap round.
	checkRefused(t, "65536 sectors", []byte("key"), make([]byte, 8), make([]byte, 64<<16))
	checkRefused(t, "65537 sectors", []byte("key"), make([]byte, 8), make([]byte, 64<<16+64))
}

func TestP5SeveralThingsWrong(t *testing.T) {
	checkRefused(t, "a key too long, no salt, no image", make([]byte, 101), nil, nil)
	checkRefused(t, "a key too long and a salt too short", make([]byte, 101), make([]byte, 7), make([]byte, 64))
	checkRefused(t, "a salt too long and half a sector", nil, make([]byte, 9), make([]byte, 32))
}

// Spare room is not part of a list: neither is it taken for more of it, nor does
// it make a list too long.
func TestP5SpareRoomDoesNotCount(t *testing.T) {
	key, _ := inRoom(mixedBytes(100, 30))
	salt, _ := inRoom(mixedBytes(8, 31))
	image, _ := inRoom(mixedBytes(64*40, 32))
	checkBuild(t, key, salt, image)
	checkRefused(t, "a salt whose last byte is spare room", key, salt[:7], image)
	checkRefused(t, "an image whose last byte is spare room", key, salt, image[:64*40-1])
}

func FuzzP5(f *testing.F) {
	f.Add([]byte(nil), []byte("saltsalt"), make([]byte, 64))
	f.Add([]byte("key"), []byte("saltsalt"), make([]byte, 64*5))
	f.Add(make([]byte, 101), []byte("saltsalt"), make([]byte, 64))
	f.Add(make([]byte, 100), []byte("salt"), make([]byte, 65))
	f.Fuzz(func(t *testing.T, key, salt, image []byte) {
		if len(key) > 100 || len(salt) != 8 || len(image)%64 != 0 || len(image) == 0 || len(image) > 2560 {
			checkRefused(t, "what was found", key, salt, image)
		} else {
			checkBuild(t, key, salt, image)
		}
	})
}
