package hallmark_test

import (
	"bytes"
	"runtime"
	"sync"
	"testing"
	"time"

	"hallmark/hallmark"
)

func TestP2BuildWritesNowhere(t *testing.T) {
	for _, n := range []int{1, 2, 3, 5, 17, 40} {
		for _, k := range []int{0, 3, 64, 65, 100} {
			key, keyRoom := inRoom(mixedBytes(k, 41))
			salt, saltRoom := inRoom(mixedBytes(8, 42))
			image, imageRoom := inRoom(mixedBytes(64*n, 43))
			keyBefore, saltBefore, imageBefore := bytes.Clone(keyRoom), bytes.Clone(saltRoom), bytes.Clone(imageRoom)
			checkBuild(t, key, salt, image)
			checkRefused(t, "a salt too short", key, salt[:7], image)
			if !bytes.Equal(keyRoom, keyBefore) || !bytes.Equal(saltRoom, saltBefore) || !bytes.Equal(imageRoom, imageBefore) {
				t.Errorf("P2: Build of %d sectors wrote into or about what it was given", n)
			}
		}
	}
}

func TestP2BuildOfListsThatShareRoom(t *testing.T) {
	room := mixedBytes(64*40, 44)
	before := bytes.Clone(room)
	checkBuild(t, room[:100], room[:8], room)
	checkBuild(t, room[64*40-100:], room[64*40-8:], room)
	checkBuild(t, room[60:160], room[62:70], room[64:64*7])
	if !bytes.Equal(room, before) {
		t.Errorf("P2: Build wrote into lists that share room")
	}
}

func TestP2BuildKeepsNothing(t *testing.T) {
	for _, n := range []int{1, 5, 40} {
		key, salt, image := mixedBytes(20, 45), mixedBytes(8, 46), mixedBytes(64*n, 47)
		want := diskOf(key, salt, image)
		disk, err := hallmark.Build(key, salt, image)
		clear(key)
		clear(salt)
		clear(image)
		if err != nil || !bytes.Equal(disk, want) {
			t.Errorf("P2: a disk of %d sectors changed with what Build was given: %v", n, err)
		}
		checkBuild(t, key, salt, image)
	}
}

// Two disks of the same image, and what the first one's caller writes there, in
// its spare room too.
func TestP2DisksAreTheCallers(t *testing.T) {
	for _, n := range []int{1, 5, 40} {
		key, salt, image := mixedBytes(20, 48), mixedBytes(8, 49), mixedBytes(64*n, 50)
		want := diskOf(key, salt, image)
		first, _ := hallmark.Build(key, salt, image)
		second, _ := hallmark.Build(key, salt, image)
		clear(first[:cap(first)])
		if !bytes.Equal(second, want) || !bytes.Equal(image, mixedBytes(64*n, 50)) {
			t.Errorf("P2: a disk of %d sectors has a place in common with another list", n)
		}
		checkBuild(t, key, salt, image)
	}
}

func TestP2BuildsAtTheSameTime(t *testing.T) {
	var callers sync.WaitGroup
	shared := mixedBytes(64*40, 51)
	for seed := range uint32(16) {
		callers.Go(func() {
			for n := 1; n <= 40; n++ {
				checkBuild(t, mixedBytes(n, seed), mixedBytes(8, seed+1), mixedBytes(64*n, seed+2))
				checkBuild(t, shared[:n], shared[:8], shared[:64*n])
			}
		})
	}
	callers.Wait()
}

// P1: nothing of a Build goes on when it has answered. A goroutine that has done
// its work may need a moment to be gone: so the count is asked for a while.
func TestP1BuildLeavesNothingRunning(t *testing.T) {
	before := runtime.NumGoroutine()
	for range 50 {
		hallmark.Build(nil, make([]byte, 8), make([]byte, 64*40))
		hallmark.Build(nil, nil, make([]byte, 64*40))
	}
	for range 200 {
		if runtime.NumGoroutine() <= before {
			return
		}
		time.Sleep(10 * time.Millisecond)
	}
	t.Errorf("P1: %d goroutines ahead of Build, %d behind it", before, runtime.NumGoroutine())
}
