package hallmark_test

import (
	"bytes"
	"math"
	"slices"
	"testing"

	"hallmark/api"
	"hallmark/hallmark"
)

func checkNoMount(t *testing.T, what string, key, disk []byte, cache int, want error) {
	t.Helper()
	if v, err := hallmark.Mount(key, disk, cache); v != nil || err != want {
		t.Errorf("P6: Mount, %s: %v, %v, want nil and %v", what, v, err, want)
	}
}

// someDisk is a right disk of n sectors, its key and its image.
func someDisk(n int) (disk, key, image []byte) {
	key, image = mixedBytes(20, 70), mixedBytes(64*n, 71)
	return diskOf(key, mixedBytes(8, 72), image), key, image
}

func TestP6EveryDiskOfBuild(t *testing.T) {
	for n := 1; n <= api.MaxSectors; n++ {
		for _, k := range []int{0, 1, 64, 65, 99, 100} {
			for _, cache := range []int{0, 1, 50, 99, 100} {
				key := mixedBytes(k, 73)
				disk, _ := hallmark.Build(key, mixedBytes(8, 74), mixedBytes(64*n, 75))
				v, err := hallmark.Mount(key, disk, cache)
				if err != nil || v.Size() != n {
					t.Errorf("P6: Mount of %d sectors, a key of %d bytes, a cache of %d: %v", n, k, cache, err)
				}
			}
		}
	}
}

// ErrArg is named first: it is told whatever the disk may be.
func TestP6ArgumentsThatMayNotBe(t *testing.T) {
	disk, key, _ := someDisk(5)
	for _, d := range [][]byte{disk, nil, {}, disk[:127], disk[:len(disk)-1], make([]byte, 1024)} {
		for _, cache := range []int{-1, -2, 101, 102, 1 << 32, math.MaxInt, math.MinInt} {
			checkNoMount(t, "such a cache", key, d, cache, api.ErrArg)
		}
		for _, k := range []int{101, 102, 128, 1 << 20} {
			checkNoMount(t, "a key too long", make([]byte, k), d, 1, api.ErrArg)
			checkNoMount(t, "a key too long, and such a cache", make([]byte, k), d, -1, api.ErrArg)
		}
	}
	long := mixedBytes(101, 76)
	checkNoMount(t, "the key too long that it was made by", long, diskOf(long, make([]byte, 8), make([]byte, 64)), 0, api.ErrArg)
}

func TestP6DiskOfAnotherLength(t *testing.T) {
	for _, n := range []int{1, 2, 5, 40} {
		disk, key, _ := someDisk(n)
		longer := append(bytes.Clone(disk), make([]byte, 300)...)
		for size := range len(longer) + 1 {
			if size != len(disk) {
				checkNoMount(t, "such a length", key, longer[:size], 1, api.ErrHead)
			}
		}
	}
	for _, none := range [][]byte{nil, {}} {
		checkNoMount(t, "nothing", []byte("key"), none, 0, api.ErrHead)
		checkNoMount(t, "nothing under no key", none, none, 0, api.ErrHead)
	}
}

// What stands in the spare room of a disk is not of the disk.
func TestP6SpareRoomDoesNotCount(t *testing.T) {
	disk, key, _ := someDisk(5)
	checkNoMount(t, "the last byte is spare room", key, disk[:len(disk)-1], 1, api.ErrHead)
	checkNoMount(t, "all but the head is spare room", key, disk[:128], 1, api.ErrHead)
	checkNoMount(t, "the head's last byte is spare room", key, disk[:127], 1, api.ErrHead)
	checkNoMount(t, "all is spare room", key, disk[:0], 1, api.ErrHead)
	room, _ := inRoom(disk)
	mountPair(t, key, room, 1).read(4)
}

func TestP6HeadWithAnotherBit(t *testing.T) {
	for _, n := range []int{1, 5, 40} {
		disk, key, _ := someDisk(n)
		for i := range 128 {
			for bit := range 8 {
				disk[i] ^= 1 << bit
				checkNoMount(t, "another bit in the head", key, disk, 1, api.ErrHead)
				disk[i] ^= 1 << bit
			}
		}
		if _, err := hallmark.Mount(key, disk, 1); err != nil {
			t.Errorf("P6: Mount, all bits laid back: %v", err)
		}
	}
}

func TestP6AnotherKey(t *testing.T) {
	disk, key, _ := someDisk(3)
	for i := range key {
		other := bytes.Clone(key)
		other[i] ^= 4
		checkNoMount(t, "another key", other, disk, 1, api.ErrHead)
	}
	checkNoMount(t, "no key", nil, disk, 1, api.ErrHead)
	checkNoMount(t, "a key too short", key[:19], disk, 1, api.ErrHead)
	checkNoMount(t, "a longer key", append(bytes.Clone(key), 1), disk, 1, api.ErrHead)
}

// Keys that make the same tags make the same heads: what counts is what Build
// makes under this key.
func TestP6KeysThatAreAsGood(t *testing.T) {
	for _, k := range []int{0, 20, 63, 65, 100} {
		key := mixedBytes(k, 77)
		disk := diskOf(key, make([]byte, 8), make([]byte, 64*3))
		other := append(bytes.Clone(key), 0)
		if k > 64 {
			digest := hallmark.Digest(key)
			other = digest[:]
		}
		if _, err := hallmark.Mount(other, disk, 1); err != nil {
			t.Errorf("P6: Mount under a key that is as good as one of %d bytes: %v", k, err)
		}
	}
}

// A head that is signed, of a count that may not be, or that is not this disk's.
func TestP6SignedCounts(t *testing.T) {
	disk, key, _ := someDisk(5)
	for n := range 1 << 16 {
		if n != 5 && (n < 600 || n%256 < 50) {
			signed := slices.Concat(headOf(key, disk[6:14], disk[14:46], n), disk[128:])
			checkNoMount(t, "another count that is signed", key, signed, 1, api.ErrHead)
		}
	}
	for _, n := range []int{0, 41, 42, 255, 256, 257, 296, 65535} {
		for _, size := range []int{128, 192, 256, 320, 6656, 6720, 6784, 128 + 64*((2*n+5)*5/4)} {
			signed := append(headOf(key, disk[6:14], disk[14:46], n), make([]byte, size-128)...)
			checkNoMount(t, "a signed count that may not be", key, signed, 1, api.ErrHead)
		}
	}
}

// Disks that are right in all but that an image of so many sectors may not be.
func TestP6WholeDisksOfTooMany(t *testing.T) {
	for _, n := range []int{41, 42, 64, 100, 255, 256, 257, 296, 1000} {
		disk := diskOf([]byte("key"), mixedBytes(8, 78), mixedBytes(64*n, 79))
		checkNoMount(t, "a disk of too many", []byte("key"), disk, 1, api.ErrHead)
	}
	none := headOf([]byte("key"), mixedBytes(8, 78), mixedBytes(32, 79), 0)
	checkNoMount(t, "a disk of none", []byte("key"), none, 1, api.ErrHead)
}

// Heads that are signed as they are, but not as Build makes them.
func TestP6SignedOtherwise(t *testing.T) {
	disk, key, _ := someDisk(5)
	for _, magic := range []string{"Hall", "halL", "hal\x00", "\x00all", "llah"} {
		told := slices.Concat([]byte(magic), disk[4:46])
		tag := hallmark.Tag(key, told)
		signed := slices.Concat(told, tag[:], make([]byte, 50), disk[128:])
		checkNoMount(t, "another word ahead", key, signed, 1, api.ErrHead)
	}
	for size := range 129 {
		if size == 46 {
			continue
		}
		tag := hallmark.Tag(key, disk[:size])
		signed := bytes.Clone(disk)
		copy(signed[46:], tag[:])
		checkNoMount(t, "a tag of other bytes", key, signed, 1, api.ErrHead)
	}
	digest := hallmark.Digest(disk[:46])
	signed := bytes.Clone(disk)
	copy(signed[46:], digest[:])
	checkNoMount(t, "a digest for a tag", key, signed, 1, api.ErrHead)
}

// A head is right with any salt and any root; what stands behind it is not looked
// at by Mount.
func TestP6AnySaltAndRoot(t *testing.T) {
	for n := 1; n <= api.MaxSectors; n++ {
		right, key, _ := someDisk(n)
		for seed := range uint32(4) {
			head := headOf(key, mixedBytes(8, seed), mixedBytes(32, seed+1), n)
			disk := append(head, mixedBytes(len(right)-128, seed+2)...)
			p := mountPair(t, key, disk, int(seed)*33)
			top := len(levelsOf(n)) - 1
			want := api.Failed{Sector: n - 1, Cause: api.Broken{Level: top, Index: 0}}
			if b, err := p.v.Read(n - 1); b != nil || err != want {
				t.Errorf("P7: Read of a disk of mixed bytes: %x, %v, want %v", b, err, want)
			}
		}
	}
}

func FuzzP6(f *testing.F) {
	disk, key, _ := someDisk(3)
	f.Add(key, disk, 1)
	f.Add(key, disk[:200], 1)
	f.Add([]byte(nil), []byte(nil), 0)
	f.Add(make([]byte, 101), make([]byte, 320), 101)
	f.Fuzz(func(t *testing.T, key, disk []byte, cache int) {
		var want error
		switch {
		case len(key) > 100 || cache < 0 || cache > 100:
			want = api.ErrArg
		case len(disk) < 128 || disk[5] != 0 || disk[4] < 1 || disk[4] > 40:
			want = api.ErrHead
		case !bytes.Equal(disk[:128], headOf(key, disk[6:14], disk[14:46], int(disk[4]))):
			want = api.ErrHead
		case len(disk) != 128+64*(guardedOf(int(disk[4]))+(guardedOf(int(disk[4]))+3)/4):
			want = api.ErrHead
		}
		if v, err := hallmark.Mount(key, disk, cache); err != want || (v == nil) != (want != nil) {
			t.Errorf("P6: Mount = %v, %v, want %v", v, err, want)
		}
	})
}
