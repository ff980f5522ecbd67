package hallmark_test

import (
	"bytes"
	"errors"
	"math"
	"testing"

	"hallmark/api"
	"hallmark/hallmark"
)

func mustMount(t *testing.T, key, disk []byte, cache int) *hallmark.Volume {
	t.Helper()
	v, err := hallmark.Mount(key, disk, cache)
	if err != nil || v == nil {
		t.Fatalf("P6: Mount of %d bytes, a cache of %d: %v", len(disk), cache, err)
	}
	return v
}

// spoil changes one byte of a sector, by its place among all sectors of the disk.
func spoil(disk []byte, places ...int) []byte {
	spoilt := bytes.Clone(disk)
	for _, place := range places {
		spoilt[128+64*place+(place*5+9)%64] ^= 1 << (place % 8)
	}
	return spoilt
}

func checkRead(t *testing.T, v *hallmark.Volume, image []byte, i int) {
	t.Helper()
	if got, err := v.Read(i); err != nil || !bytes.Equal(got, image[64*i:64*i+64]) {
		t.Errorf("P7: Read(%d) = %x, %v, want %x", i, got, err, image[64*i:64*i+64])
	}
}

func checkReadAll(t *testing.T, v *hallmark.Volume, image []byte) {
	t.Helper()
	for i := range len(image) / 64 {
		checkRead(t, v, image, i)
	}
}

func checkBroken(t *testing.T, v *hallmark.Volume, i, level, index int) {
	t.Helper()
	got, err := v.Read(i)
	if want := error(api.Failed{Sector: i, Cause: api.Broken{Level: level, Index: index}}); got != nil || err != want {
		t.Errorf("P7: Read(%d) = %x, %v, want nil and %v", i, got, err, want)
	}
}

func TestP7NoSuchSector(t *testing.T) {
	for _, n := range []int{1, 2, 5, 40} {
		disk, key, image := someDisk(n)
		v := mustMount(t, key, disk, 100)
		for _, i := range []int{-1, -2, n, n + 1, n + 64, math.MaxInt, math.MinInt, 1 << 32, -1 << 32, 1 << 62} {
			if got, err := v.Read(i); got != nil || err != api.ErrRange {
				t.Errorf("P7: of %d sectors: Read(%d) = %x, %v, want nil and ErrRange", n, i, got, err)
			}
		}
		if cost := v.Cost(); cost != (api.Count{}) {
			t.Errorf("P9: Reads of what is not there cost %+v", cost)
		}
		checkReadAll(t, v, image)
	}
}

// ErrRange is told of a disk that is all spoilt too: it is named first.
func TestP7NoSuchSectorOfASpoiltDisk(t *testing.T) {
	disk, key, _ := someDisk(5)
	clear(disk[128:])
	v := mustMount(t, key, disk, 3)
	for _, i := range []int{-1, 5} {
		if got, err := v.Read(i); got != nil || err != api.ErrRange {
			t.Errorf("P7: Read(%d) = %x, %v, want nil and ErrRange", i, got, err)
		}
	}
}

// The document's own examples.
func TestP7Examples(t *testing.T) {
	disk, key, image := someDisk(5)
	v := mustMount(t, key, spoil(disk, 4), 0)
	checkRead(t, v, image, 4)
	v = mustMount(t, key, spoil(disk, 0, 1), 0)
	got, err := v.Read(0)
	var failed api.Failed
	var broken api.Broken
	if got != nil || !errors.Is(err, api.ErrBroken) {
		t.Errorf("P7: Read(0) = %x, %v, want ErrBroken within", got, err)
	}
	if !errors.As(err, &failed) || failed.Sector != 0 || failed.Cause != (api.Broken{}) {
		t.Errorf("P7: Read(0) = %v, want a Failed of 0", err)
	}
	if !errors.As(err, &broken) || broken != (api.Broken{Level: 0, Index: 0}) {
		t.Errorf("P7: Read(0) = %v, want the Broken of the level 0, place 0", err)
	}
	checkRead(t, v, image, 4)
	if _, err := v.Read(5); err != api.ErrRange {
		t.Errorf("P7: Read(5) = %v, want ErrRange", err)
	}
}

// One sector alone is spoilt, whichever it is: all can be read.
func TestP7EachSectorIsHadAgain(t *testing.T) {
	for n := 1; n <= api.MaxSectors; n++ {
		disk, key, image := someDisk(n)
		for place := range (len(disk) - 128) / 64 {
			for _, cache := range []int{0, 4, 100} {
				checkReadAll(t, mustMount(t, key, spoil(disk, place), cache), image)
			}
		}
	}
}

// Each byte of a sector counts, and each of its group and parity.
func TestP7EachByteCounts(t *testing.T) {
	disk, key, image := someDisk(1)
	for at := 128; at < len(disk); at++ {
		for bit := range 8 {
			v := mustMount(t, key, disk, 0)
			v.Poke(at, disk[at]^1<<bit)
			checkRead(t, v, image, 0)
			repairs := 1
			if at >= 128+2*64 {
				repairs = 0
			}
			if cost := v.Cost(); cost.Repairs != repairs {
				t.Errorf("P9: the bit %d of the byte %d is another: %+v", bit, at, cost)
			}
		}
	}
}

// A sector, and any other of its group or their parity: it cannot be had again.
func TestP7EachSectorIsTold(t *testing.T) {
	for _, n := range []int{1, 2, 3, 5, 10, 33, 40} {
		disk, key, _ := someDisk(n)
		for level, count := range levelsOf(n) {
			for index := range count {
				place := placeOf(n, spotOf{level, index})
				parity := parityPlaceOf(n, place)
				v := mustMount(t, key, spoil(disk, place, parity), 0)
				first := index << level
				checkBroken(t, v, first, level, index)
				checkBroken(t, v, min(first+1<<level, n)-1, level, index)
			}
		}
	}
}

// Where several on the way are spoilt, the one that is had first is told.
func TestP7TheHighestIsTold(t *testing.T) {
	disk, key, _ := someDisk(40)
	for level := range 7 {
		var places []int
		for below := range level + 1 {
			place := placeOf(40, spotOf{below, 39 >> below})
			places = append(places, place, parityPlaceOf(40, place))
		}
		seen := map[int]bool{}
		var once []int // a parity that two have in common would be laid back by the second
		for _, place := range places {
			if !seen[place] {
				once = append(once, place)
			}
			seen[place] = true
		}
		checkBroken(t, mustMount(t, key, spoil(disk, once...), 100), 39, level, 39>>level)
	}
}

// Another right disk stands behind the head: by its own root it would be right.
func TestP7AnotherDiskBehindTheHead(t *testing.T) {
	for _, n := range []int{1, 5, 40} {
		disk, key, _ := someDisk(n)
		other := diskOf(key, disk[6:14], mixedBytes(64*n, 80))
		copy(disk[128:], other[128:])
		v := mustMount(t, key, disk, 100)
		for i := range n {
			checkBroken(t, v, i, len(levelsOf(n))-1, 0)
		}
	}
}

// One sector of the data is another, and tree and parity were made to fit, but
// for the top: what fits is not what is right.
func TestP7ATreeMadeToFit(t *testing.T) {
	disk, key, image := someDisk(5)
	changed := bytes.Clone(image)
	changed[64*4] ^= 1
	other := diskOf(key, disk[6:14], changed)
	const top = 128 + 64*10
	forged := append(bytes.Clone(other[:top]), disk[top:top+64]...)
	forged = append(forged, parityOf(forged[128:])...)
	copy(forged, disk[:128])
	v := mustMount(t, key, forged, 0)
	for i := range 4 {
		checkRead(t, v, image, i)
	}
	checkBroken(t, v, 4, 2, 1)
}

// Sectors that are each other's: each is right elsewhere, but not where it stands.
func TestP7SectorsThatChangedPlaces(t *testing.T) {
	disk, key, image := someDisk(9)
	swapped := func(a, b int) []byte {
		d := bytes.Clone(disk)
		copy(d[128+64*a:192+64*a], disk[128+64*b:])
		copy(d[128+64*b:192+64*b], disk[128+64*a:])
		return d
	}
	checkReadAll(t, mustMount(t, key, swapped(1, 6), 0), image)
	v := mustMount(t, key, swapped(1, 2), 0)
	checkBroken(t, v, 1, 0, 1)
	checkBroken(t, v, 2, 0, 2)
	checkRead(t, v, image, 3)
	v = mustMount(t, key, swapped(0, 9), 0) // data and its own level above
	checkReadAll(t, v, image)
}

// What was had again is not laid on the disk: it is had again each time.
func TestP7TheDiskIsNotMended(t *testing.T) {
	disk, key, image := someDisk(5)
	v := mustMount(t, key, spoil(disk, 0), 100)
	checkRead(t, v, image, 0)
	checkRead(t, v, image, 0)
	if cost := v.Cost(); cost.Repairs != 2 {
		t.Errorf("P9: read twice: %+v, want two repairs", cost)
	}
	spoilt := spoil(disk, 0)
	v.Poke(128+64*1, disk[128+64*1]^1) // now there are two in the group
	checkBroken(t, v, 0, 0, 0)
	v.Poke(128+64*1, spoilt[128+64*1])
	checkRead(t, v, image, 0)
}

// What could not be had is not in the cache: when it is right on the disk again,
// it is read.
func TestP7NothingWrongIsKept(t *testing.T) {
	disk, key, image := someDisk(5)
	for _, cache := range []int{0, 1, 100} {
		bad := spoil(disk, 8, 9)
		v := mustMount(t, key, bad, cache)
		checkBroken(t, v, 0, 2, 0)
		checkBroken(t, v, 4, 2, 1)
		for at := range disk {
			if bad[at] != disk[at] {
				v.Poke(at, disk[at])
			}
		}
		checkReadAll(t, v, image)
		if cost := v.Cost(); cost.Repairs != 2 {
			t.Errorf("P9: a cache of %d: %+v, want two repairs", cache, cost)
		}
	}
}

// The others of a group are read from the disk, whatever the cache has of them.
func TestP7RepairDoesNotAskTheCache(t *testing.T) {
	disk, key, image := someDisk(5)
	v := mustMount(t, key, disk, 100)
	checkReadAll(t, v, image)
	before := v.Cost()
	v.Poke(128+64*5, disk[128+64*5]^1) // of level 1, in the cache, in the group of the sector 4
	checkRead(t, v, image, 0)          // from the cache
	v.Poke(128+64*4, disk[128+64*4]^1)
	checkBroken(t, v, 4, 0, 4)
	want := api.Count{Reads: before.Reads + 1 + 1 + 4, Repairs: 1, Hits: before.Hits + 3 + 3}
	if cost := v.Cost(); cost != want {
		t.Errorf("P9: %+v, want %+v", cost, want)
	}
}

// Spoilt sectors that xor to nothing hide from nobody.
func TestP7SpoiltAlike(t *testing.T) {
	disk, key, image := someDisk(5)
	for _, place := range []int{0, 1, 2, 3} {
		for other := range 4 {
			if other == place {
				continue
			}
			d := bytes.Clone(disk)
			d[128+64*place] ^= 255
			d[128+64*other] ^= 255
			v := mustMount(t, key, d, 0)
			checkBroken(t, v, place, 0, place)
			checkBroken(t, v, other, 0, other)
			checkRead(t, v, image, 4)
		}
	}
}
