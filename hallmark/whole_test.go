package hallmark_test

import (
	"bytes"
	"testing"

	"hallmark/api"
	"hallmark/hallmark"
)

// What was built can be read, sector by sector, without a repair; and a Read
// reads as many sectors as there are levels, less what the cache had.
func TestP10WhatWasBuiltCanBeRead(t *testing.T) {
	for n := 1; n <= api.MaxSectors; n++ {
		for _, k := range []int{0, 100} {
			key, image := mixedBytes(k, 90), mixedBytes(64*n, 91)
			disk, err := hallmark.Build(key, mixedBytes(8, 92), image)
			if err != nil {
				t.Fatalf("P5: Build of %d sectors: %v", n, err)
			}
			for _, cache := range cachesTried() {
				v := mustMount(t, key, disk, cache)
				checkReadsOfARightDisk(t, v, image)
			}
		}
	}
}

// checkReadsOfARightDisk reads forth, and back.
func checkReadsOfARightDisk(t *testing.T, v *hallmark.Volume, image []byte) {
	t.Helper()
	n := v.Size()
	for step := range 2 * n {
		before := v.Cost()
		checkRead(t, v, image, min(step, 2*n-1-step))
		cost := v.Cost()
		if reads, hits := cost.Reads-before.Reads, cost.Hits-before.Hits; reads+hits != len(levelsOf(n)) || reads < 1 || cost.Repairs != 0 {
			t.Errorf("P10: of %d sectors: one Read read %d, had %d from the cache, with %d repairs", n, reads, hits, cost.Repairs)
		}
	}
}

// spoilOneEach spoils one sector of each group, or its parity, or none, as chance
// will have it: one byte of it, or all.
func spoilOneEach(disk []byte, n int, c *chances) []byte {
	spoilt := bytes.Clone(disk)
	all := guardedOf(n)
	for group := 0; group*4 < all; group++ {
		place := group*4 + c.below(6)
		if place >= min(all, group*4+4) {
			place = all + group
		}
		sector := spoilt[128+64*place : 192+64*place]
		switch c.below(4) {
		case 0:
			sector[c.below(64)] ^= byte(1 + c.below(255))
		case 1:
			clear(sector)
		case 2:
			copy(sector, mixedBytes(64, uint32(c.below(1000))))
		}
	}
	return spoilt
}

func TestP10OneOfEachGroupMayBeSpoilt(t *testing.T) {
	for n := 1; n <= api.MaxSectors; n++ {
		disk, key, image := someDisk(n)
		c := chances{uint32(n)}
		for range 20 {
			spoilt := spoilOneEach(disk, n, &c)
			for _, cache := range []int{0, 1, 4, 100} {
				checkReadAll(t, mustMount(t, key, spoilt, cache), image)
			}
		}
	}
}

// The spoiling may go on while the disk is read: one of each group at any time.
func TestP10SpoiltWhileItIsRead(t *testing.T) {
	for _, n := range []int{1, 2, 5, 10, 33, 40} {
		disk, key, image := someDisk(n)
		for _, cache := range []int{0, 1, 4, 100} {
			v := mustMount(t, key, disk, cache)
			c := chances{uint32(n + cache)}
			for range 20 {
				for at, b := range spoilOneEach(disk, n, &c) {
					v.Poke(at, b)
				}
				checkRead(t, v, image, c.below(n))
			}
		}
	}
}

// Whatever the cache may hold, each Read tells the same on a disk that stays as
// it is, errors too.
func TestP10TheCacheIsNotSeen(t *testing.T) {
	for n := 1; n <= api.MaxSectors; n++ {
		disk, key, _ := someDisk(n)
		c := chances{uint32(n)}
		for spoilt := range 8 {
			bad := bytes.Clone(disk)
			for range spoilt * n / 8 {
				bad[128+c.below(len(bad)-128)] ^= byte(1 + c.below(255))
			}
			plain := mustMount(t, key, bad, 0)
			for _, cache := range cachesTried() {
				checkSameReads(t, plain, mustMount(t, key, bad, cache), &c)
			}
		}
	}
}

func checkSameReads(t *testing.T, plain, cached *hallmark.Volume, c *chances) {
	t.Helper()
	for range 2 * plain.Size() {
		i := c.below(plain.Size())
		want, wantErr := plain.Read(i)
		if got, err := cached.Read(i); err != wantErr || !bytes.Equal(got, want) {
			t.Errorf("P10: Read(%d) = %x, %v with a cache, %x, %v without", i, got, err, want, wantErr)
		}
	}
}

// Nothing that is answered is wrong, however much is spoilt: either what the
// image had there, or that it cannot be told.
func TestP10NeverAWrongSector(t *testing.T) {
	for _, n := range []int{1, 2, 5, 17, 40} {
		disk, key, image := someDisk(n)
		c := chances{uint32(n)}
		for spoilt := range 60 {
			v := mustMount(t, key, disk, c.below(101))
			for range spoilt {
				v.Poke(128+c.below(len(disk)-128), byte(c.below(256)))
			}
			for i := range n {
				if got, err := v.Read(i); err == nil && !bytes.Equal(got, image[64*i:64*i+64]) {
					t.Errorf("P10: Read(%d) of a spoilt disk tells what the image had not", i)
				}
			}
		}
	}
}
