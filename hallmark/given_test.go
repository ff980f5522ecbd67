package hallmark_test

import (
	"bytes"
	"crypto/sha256"
	"sync"
	"testing"

	"hallmark/hallmark"
)

// inRoom lays b between other bytes: the list, and the whole room around it. The
// room behind is spare room of the list.
func inRoom(b []byte) (list, room []byte) {
	const around = 200
	room = bytes.Repeat([]byte{77}, around+len(b)+around)
	copy(room[around:], b)
	return room[around : around+len(b)], room
}

func TestP2DigestWritesNowhere(t *testing.T) {
	for _, n := range edges() {
		b, room := inRoom(mixedBytes(n, 6))
		before := bytes.Clone(room)
		hallmark.Digest(b)
		if !bytes.Equal(room, before) {
			t.Errorf("P2: Digest wrote into or about its %d bytes", n)
		}
	}
}

func TestP2TagWritesNowhere(t *testing.T) {
	for _, k := range []int{0, 1, 63, 64, 65, 100, 300} {
		for _, n := range edges() {
			key, keyRoom := inRoom(mixedBytes(k, 7))
			b, room := inRoom(mixedBytes(n, 8))
			keyBefore, before := bytes.Clone(keyRoom), bytes.Clone(room)
			hallmark.Tag(key, b)
			if !bytes.Equal(keyRoom, keyBefore) {
				t.Errorf("P2: Tag of %d bytes wrote into or about its key of %d", n, k)
			}
			if !bytes.Equal(room, before) {
				t.Errorf("P2: Tag under a key of %d bytes wrote into or about its %d bytes", k, n)
			}
		}
	}
}

func TestP2KeyAndBytesShareRoom(t *testing.T) {
	for _, n := range []int{20, 64, 65, 128, 200} {
		room := mixedBytes(n, 11)
		before := bytes.Clone(room)
		checkTag(t, "the bytes themselves", room, room)
		checkTag(t, "the first of the bytes", room[:n/2], room)
		checkTag(t, "the bytes that overlap", room[n/4:], room[:n/2])
		if !bytes.Equal(room, before) {
			t.Errorf("P2: Tag wrote into %d bytes that are key and bytes at once", n)
		}
	}
}

// Nothing is kept: neither what was handed in nor what was reckoned from it.
func TestP2NothingIsKept(t *testing.T) {
	for _, n := range []int{1, 55, 64, 65, 200} {
		key, b := mixedBytes(n, 12), mixedBytes(n, 13)
		digest, tag := hallmark.Digest(b), hallmark.Tag(key, b)
		oldKey, old := bytes.Clone(key), bytes.Clone(b)
		key[0]++
		b[n-1]++
		checkDigest(t, "bytes that were changed in place", b)
		checkTag(t, "a key that was changed in place", key, b)
		if hallmark.Digest(old) != digest || hallmark.Tag(oldKey, old) != tag {
			t.Errorf("P2: of %d bytes, the same is answered otherwise later", n)
		}
	}
}

func TestP2AnswersAreTheCallers(t *testing.T) {
	b := []byte("abc")
	digest, tag := hallmark.Digest(b), hallmark.Tag(b, b)
	clear(digest[:])
	clear(tag[:])
	checkDigest(t, "bytes whose digest was written into", b)
	checkTag(t, "a key whose tag was written into", b, b)
}

func TestP2CallsAtTheSameTime(t *testing.T) {
	var callers sync.WaitGroup
	for seed := range uint32(16) {
		callers.Go(func() {
			for n := range 150 {
				checkDigest(t, "bytes of one caller among others", mixedBytes(n, seed))
				checkTag(t, "a key of one caller among others", mixedBytes(n, seed+100), mixedBytes(n, seed))
			}
		})
	}
	callers.Wait()
}

// P1: both calls end, and do not panic, at lists of every length; that they also
// answer right shows that no panic was caught and told as an answer of nothing.
func TestP1EveryLengthIsAnswered(t *testing.T) {
	b := mixedBytes(1000, 14)
	for n := range len(b) + 1 {
		if hallmark.Digest(b[:n]) != sha256.Sum256(b[:n]) {
			t.Errorf("P1: Digest of %d bytes", n)
		}
		checkTag(t, "a key of every length", b[:n], b[n:])
	}
}
