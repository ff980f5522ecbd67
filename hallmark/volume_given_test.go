package hallmark_test

import (
	"bytes"
	"errors"
	"sync"
	"testing"

	"hallmark/api"
	"hallmark/hallmark"
)

func TestP2MountWritesNowhere(t *testing.T) {
	for _, n := range []int{1, 3, 40} {
		for _, k := range []int{0, 20, 64, 65, 100} {
			key, keyRoom := inRoom(mixedBytes(k, 100))
			disk, room := inRoom(diskOf(key, mixedBytes(8, 101), mixedBytes(64*n, 102)))
			keyBefore, before := bytes.Clone(keyRoom), bytes.Clone(room)
			v := mustMount(t, key, disk, 5)
			v.Read(n - 1)
			v.Poke(130, 7)
			v.Poke(len(disk)-1, 7)
			v.Read(0)
			hallmark.Mount(key, disk[:len(disk)-1], 5)
			hallmark.Mount(key, disk, -1)
			if !bytes.Equal(keyRoom, keyBefore) || !bytes.Equal(room, before) {
				t.Errorf("P2: of %d sectors, a key of %d bytes: what was handed in was written into", n, k)
			}
		}
	}
}

func TestP2KeyAndDiskShareRoom(t *testing.T) {
	disk := diskOf([]byte("hall"), []byte("saltsalt"), mixedBytes(64*3, 103))
	before := bytes.Clone(disk)
	v := mustMount(t, disk[:4], disk, 2)
	checkReadAll(t, v, disk[128:128+64*3])
	if !bytes.Equal(disk, before) {
		t.Errorf("P2: a disk that is its own key was written into")
	}
}

// The volume's disk is a copy of its own: what the caller makes of key and disk
// later is not seen.
func TestP2MountKeepsNothing(t *testing.T) {
	for _, cache := range []int{0, 100} {
		disk, key, image := someDisk(5)
		v := mustMount(t, key, disk, cache)
		clear(disk)
		clear(key)
		checkReadAll(t, v, image)
		if cost := v.Cost(); cost.Repairs != 0 {
			t.Errorf("P2: the disk that was handed in is the volume's: %+v", cost)
		}
	}
}

// What a caller writes into an answer, in its spare room too, changes nothing
// else: not the disk, not the cache, not another answer.
func TestP2AnswersOfReadAreTheCallers(t *testing.T) {
	for _, spoilt := range [][]int{nil, {0}, {8}} {
		for _, cache := range []int{0, 1, 100} {
			disk, key, image := someDisk(5)
			v := mustMount(t, key, spoil(disk, spoilt...), cache)
			var answers [][]byte
			for i := range 10 {
				b, err := v.Read(i % 5)
				if err != nil {
					t.Fatalf("P7: Read(%d): %v", i%5, err)
				}
				answers = append(answers, b)
			}
			for at, b := range answers {
				if want := image[64*(at%5) : 64*(at%5)+64]; !bytes.Equal(b, want) {
					t.Errorf("P2: the %d-th answer changed with another one", at)
				}
				whole := b[:cap(b)]
				for i := range whole {
					whole[i] = 99
				}
			}
			repairs := v.Cost().Repairs
			checkReadAll(t, v, image)
			if cost := v.Cost(); spoilt == nil && cost.Repairs != repairs {
				t.Errorf("P2: an answer that was written into spoilt the disk: %+v", cost)
			}
		}
	}
}

// An error that was told stays as it was told, and is no part of the volume.
func TestP2ErrorsStay(t *testing.T) {
	disk, key, _ := someDisk(5)
	v := mustMount(t, key, spoil(disk, 0, 1), 0)
	_, first := v.Read(0)
	_, second := v.Read(1)
	var failed api.Failed
	if !errors.As(first, &failed) {
		t.Fatalf("P7: Read(0) = %v", first)
	}
	failed.Sector = 77
	if first != (api.Failed{Sector: 0, Cause: api.Broken{Level: 0, Index: 0}}) || second != (api.Failed{Sector: 1, Cause: api.Broken{Level: 0, Index: 1}}) {
		t.Errorf("P2: errors that were told are %v and %v", first, second)
	}
}

// Volumes of one list know nothing of each other.
func TestP2VolumesAreApart(t *testing.T) {
	disk, key, image := someDisk(5)
	first, second := mustMount(t, key, disk, 100), mustMount(t, key, disk, 100)
	checkReadAll(t, first, image)
	checkCost(t, second, 0, 0, 0)
	for at := 128; at < len(disk); at++ {
		first.Poke(at, 9)
	}
	checkReadAll(t, second, image)
	checkCost(t, second, 11, 0, 9)
	checkBroken(t, first, 0, 0, 0)
	checkReadAll(t, mustMount(t, key, disk, 0), image)
}

func TestP2VolumesAtTheSameTime(t *testing.T) {
	disk, key, image := someDisk(40)
	var callers sync.WaitGroup
	for seed := range uint32(16) {
		callers.Go(func() {
			v, err := hallmark.Mount(key, disk, int(seed)*6)
			if err != nil {
				t.Errorf("P6: Mount: %v", err)
				return
			}
			c := chances{seed}
			for range 20 {
				for at, b := range spoilOneEach(disk, 40, &c) {
					v.Poke(at, b)
				}
				checkRead(t, v, image, c.below(40))
			}
		})
	}
	callers.Wait()
}

// P1: with an error nothing has changed, but for what is counted and the cache.
func TestP1ErrorsChangeNothing(t *testing.T) {
	disk, key, image := someDisk(5)
	for _, cache := range []int{0, 2, 100} {
		v := mustMount(t, key, spoil(disk, 0, 1), cache)
		for range 3 {
			checkBroken(t, v, 0, 0, 0)
			checkBroken(t, v, 1, 0, 1)
			v.Read(-1)
			v.Read(5)
			v.Poke(-1, 1)
			v.Poke(len(disk), 1)
		}
		if v.Size() != 5 {
			t.Errorf("P1: Size() = %d behind errors", v.Size())
		}
		for i := 2; i < 5; i++ {
			checkRead(t, v, image, i)
		}
		for at := 128; at < 128+2*64; at++ {
			v.Poke(at, disk[at])
		}
		repairs := v.Cost().Repairs
		checkReadAll(t, v, image)
		if v.Cost().Repairs != repairs {
			t.Errorf("P1: a cache of %d: Reads that failed wrote on the disk", cache)
		}
	}
}

// P1: every number and every list is answered.
func TestP1EveryDiskIsAnswered(t *testing.T) {
	for size := range 2000 {
		for _, k := range []int{0, 100, 101} {
			for _, cache := range []int{-1, 0, 100, 101} {
				v, err := hallmark.Mount(make([]byte, k), mixedBytes(size, 104), cache)
				if v != nil || (err != api.ErrHead && err != api.ErrArg) {
					t.Errorf("P1: Mount of %d mixed bytes = %v, %v", size, v, err)
				}
			}
		}
	}
}
