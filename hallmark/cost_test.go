package hallmark_test

import (
	"math"
	"testing"

	"hallmark/api"
	"hallmark/hallmark"
)

func checkCost(t *testing.T, v *hallmark.Volume, reads, repairs, hits int) {
	t.Helper()
	if got, want := v.Cost(), (api.Count{Reads: reads, Repairs: repairs, Hits: hits}); got != want {
		t.Errorf("P9: Cost() = %+v, want %+v", got, want)
	}
}

func TestP8NoSuchPlace(t *testing.T) {
	for _, n := range []int{1, 5, 40} {
		disk, key, image := someDisk(n)
		v := mustMount(t, key, disk, 1)
		for _, at := range []int{-1, -128, len(disk), len(disk) + 1, math.MaxInt, math.MinInt, 1 << 32, -1 << 32} {
			if err := v.Poke(at, 1); err != api.ErrRange {
				t.Errorf("P8: of %d bytes: Poke(%d) = %v, want ErrRange", len(disk), at, err)
			}
		}
		checkReadAll(t, v, image)
	}
}

// A disk that was handed in with spare room ends where it ends.
func TestP8SpareRoomIsNoPlace(t *testing.T) {
	disk, key, _ := someDisk(3)
	list, _ := inRoom(disk)
	v := mustMount(t, key, list, 1)
	if err := v.Poke(len(disk), 1); err != api.ErrRange {
		t.Errorf("P8: Poke behind the end = %v, want ErrRange", err)
	}
}

// Each place can be poked, the first and the last too, and is what it was told to
// be: the disk of another image is laid byte by byte.
func TestP8EachPlace(t *testing.T) {
	for _, n := range []int{1, 5, 40} {
		disk, key, image := someDisk(n)
		blank := make([]byte, len(disk))
		copy(blank, disk[:128])
		v := mustMount(t, key, blank, 0)
		checkBroken(t, v, n-1, len(levelsOf(n))-1, 0)
		for at, b := range disk {
			if err := v.Poke(at, b); err != nil {
				t.Errorf("P8: Poke(%d) = %v", at, err)
			}
		}
		before := v.Cost()
		checkReadAll(t, v, image)
		checkCost(t, v, before.Reads+n*len(levelsOf(n)), before.Repairs, 0)
	}
}

// The last byte of a disk is the last one of the parity of the top's group.
func TestP8FirstAndLastPlace(t *testing.T) {
	for n := 1; n <= api.MaxSectors; n++ {
		disk, key, image := someDisk(n)
		v := mustMount(t, key, disk, 0)
		last := len(disk) - 1
		if err := v.Poke(0, disk[0]^1); err != nil {
			t.Errorf("P8: Poke(0) = %v", err)
		}
		if err := v.Poke(last, disk[last]^1); err != nil {
			t.Errorf("P8: Poke(%d) = %v", last, err)
		}
		checkReadAll(t, v, image)
		top := 128 + 64*(guardedOf(n)-1)
		v.Poke(top, disk[top]^1)
		checkBroken(t, v, 0, len(levelsOf(n))-1, 0)
		v.Poke(last, disk[last])
		checkReadAll(t, v, image)
	}
}

// The head was read when the disk was mounted: count, salt, root, tag and all.
func TestP8TheHeadIsNotReadAgain(t *testing.T) {
	for _, b := range []byte{0, 1, 77, 255} {
		disk, key, image := someDisk(5)
		v := mustMount(t, key, disk, 0)
		for at := range 128 {
			if err := v.Poke(at, b); err != nil {
				t.Errorf("P8: Poke(%d) = %v", at, err)
			}
			if v.Size() != 5 {
				t.Errorf("P8: Size() = %d behind Poke(%d)", v.Size(), at)
			}
		}
		checkReadAll(t, v, image)
		if _, err := v.Read(5); err != api.ErrRange {
			t.Errorf("P7: Read(5) = %v, want ErrRange", err)
		}
		checkCost(t, v, 20, 0, 0)
	}
}

func TestP8TheCacheStays(t *testing.T) {
	disk, key, image := someDisk(5)
	v := mustMount(t, key, disk, 100)
	checkReadAll(t, v, image)
	checkCost(t, v, 11, 0, 9)
	for at := 128 + 64*5; at < len(disk); at++ {
		v.Poke(at, ^disk[at])
	}
	checkReadAll(t, v, image)
	checkCost(t, v, 16, 0, 24)
	v.Poke(128, disk[128]^1)
	checkBroken(t, v, 0, 0, 0) // its parity was poked
	checkCost(t, v, 16+5, 1, 27)
	checkRead(t, v, image, 1)
}

func TestP9NothingCostsNothing(t *testing.T) {
	disk, key, _ := someDisk(5)
	v := mustMount(t, key, disk, 3)
	checkCost(t, v, 0, 0, 0)
	v.Size()
	v.Poke(200, 1)
	v.Poke(-1, 1)
	v.Read(-1)
	v.Read(5)
	v.Cost()
	checkCost(t, v, 0, 0, 0)
}

func TestP9Examples(t *testing.T) {
	disk, key, image := someDisk(5)
	v := mustMount(t, key, disk, 0)
	checkRead(t, v, image, 4)
	checkCost(t, v, 4, 0, 0)
	v = mustMount(t, key, disk, 100)
	checkRead(t, v, image, 4)
	checkCost(t, v, 4, 0, 0)
	checkRead(t, v, image, 4)
	checkCost(t, v, 5, 0, 3)
	v.Poke(128+64*4+9, disk[128+64*4+9]^1)
	checkRead(t, v, image, 4)
	checkCost(t, v, 5+1+4, 1, 6)
}

// To have a sector again is to read all others of its group, and their parity: as
// many as the group has.
func TestP9RepairReadsTheGroup(t *testing.T) {
	for n := 1; n <= api.MaxSectors; n++ {
		disk, key, image := someDisk(n)
		levels := len(levelsOf(n))
		for level, count := range levelsOf(n) {
			for index := range count {
				place := placeOf(n, spotOf{level, index})
				group := min(4, guardedOf(n)-place/4*4)
				v := mustMount(t, key, spoil(disk, place), 0)
				checkRead(t, v, image, index<<level)
				checkCost(t, v, levels+group, 1, 0)
				v = mustMount(t, key, spoil(disk, place, parityPlaceOf(n, place)), 0)
				checkBroken(t, v, index<<level, level, index)
				checkCost(t, v, levels-level+group, 1, 0)
			}
		}
	}
}

// Parity that is spoilt alone costs nothing: nobody reads it.
func TestP9SpoiltParityIsNotSeen(t *testing.T) {
	disk, key, image := someDisk(40)
	v := mustMount(t, key, spoil(disk, 81, 90, 101), 0)
	checkReadAll(t, v, image)
	checkCost(t, v, 40*7, 0, 0)
}

func TestP9ASpoiltTreeSectorIsHadAgainOnce(t *testing.T) {
	disk, key, image := someDisk(5)
	v := mustMount(t, key, spoil(disk, 10), 100)
	checkReadAll(t, v, image)
	checkCost(t, v, 11+3, 1, 9)
	v = mustMount(t, key, spoil(disk, 10), 0)
	checkReadAll(t, v, image)
	checkCost(t, v, 20+15, 5, 0)
}

// A Read that fails counts what it read and found; what it had on its way is in
// the cache.
func TestP9FailedReadsCount(t *testing.T) {
	disk, key, image := someDisk(5)
	v := mustMount(t, key, spoil(disk, 0, 1), 100)
	checkBroken(t, v, 0, 0, 0)
	checkCost(t, v, 4+4, 1, 0)
	checkBroken(t, v, 0, 0, 0)
	checkCost(t, v, 8+1+4, 2, 3)
	checkRead(t, v, image, 2)
	checkCost(t, v, 13+2, 2, 5)
	v = mustMount(t, key, spoil(disk, 10, 9), 100)
	checkBroken(t, v, 4, 3, 0)
	checkBroken(t, v, 0, 3, 0)
	checkCost(t, v, 2*(1+3), 2, 0)
}

// Which one leaves: the one that was had longest ago, not the one that came first.
func TestP7TheCacheOfSo(t *testing.T) {
	disk, key, image := someDisk(8) // levels of 8, 4, 2, 1
	v := mustMount(t, key, disk, 4)
	checkRead(t, v, image, 0) // kept: top, 2/0, 1/0
	checkCost(t, v, 4, 0, 0)
	checkRead(t, v, image, 2) // hits: top, 2/0; kept: 1/0, top, 2/0, 1/1
	checkCost(t, v, 6, 0, 2)
	checkRead(t, v, image, 4) // hit: top; kept: 1/1, top, 2/1, 1/2
	checkCost(t, v, 9, 0, 3)
	checkRead(t, v, image, 3) // hit: top; 2/0 is new, so 1/1 leaves, and is read anew: kept: 1/2, top, 2/0, 1/1
	checkCost(t, v, 12, 0, 4)
	checkRead(t, v, image, 4) // hit: top; 2/1 is new, 1/2 leaves and is read anew: kept: 1/1, top, 2/1, 1/2
	checkCost(t, v, 15, 0, 5)
	checkRead(t, v, image, 5) // all hits
	checkCost(t, v, 16, 0, 8)
}

// A cache for one holds what was had last: of one or two sectors that is the top.
func TestP7TheCacheOfOne(t *testing.T) {
	for n := 1; n <= api.MaxSectors; n++ {
		disk, key, image := someDisk(n)
		v := mustMount(t, key, disk, 1)
		checkReadAll(t, v, image)
		if n <= 2 {
			checkCost(t, v, n+1, 0, n-1)
		} else {
			checkCost(t, v, n*len(levelsOf(n)), 0, 0)
		}
	}
}

// The data is never kept, however great the cache.
func TestP7DataIsNotKept(t *testing.T) {
	disk, key, image := someDisk(5)
	v := mustMount(t, key, disk, api.MaxCache)
	checkReadAll(t, v, image)
	for at := 128; at < 128+64*5; at++ {
		v.Poke(at, ^disk[at])
	}
	for i := range 4 {
		checkBroken(t, v, i, 0, i)
	}
	checkRead(t, v, image, 4) // alone of the data in its group
}
