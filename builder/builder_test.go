package builder

import (
	"crypto/sha256"
	"slices"
	"testing"

	"hallmark/api"
)

var salt = [api.SaltSize]byte{1, 2, 3, 4, 5, 6, 7, 8}

func TestMarksComeInOrderAndEnd(t *testing.T) {
	for _, sectors := range []int{0, 1, 2, 3, 40} {
		level := make([]byte, sectors*api.Sector)
		for i := range level {
			level[i] = byte(i / 7)
		}
		var want, got [][api.Hash]byte
		for sector := range slices.Chunk(level, api.Sector) {
			want = append(want, sha256.Sum256(slices.Concat(salt[:], sector)))
		}
		for mark := range marks(salt, level) {
			got = append(got, mark)
		}
		if !slices.Equal(got, want) {
			t.Errorf("%d sectors: marks %x, want %x", sectors, got, want)
		}
	}
}

func TestLayMarksLeavesTheRest(t *testing.T) {
	for count := range 5 {
		sent := make(chan [api.Hash]byte, count)
		var want []byte
		for i := range count {
			mark := [api.Hash]byte(slices.Repeat([]byte{byte(i + 1)}, api.Hash))
			want = append(want, mark[:]...)
			sent <- mark
		}
		close(sent)
		room := make([]byte, 2*api.Sector)
		layMarks(room, sent)
		if want = append(want, make([]byte, len(room)-len(want))...); !slices.Equal(room, want) {
			t.Errorf("%d marks: %x, want %x", count, room, want)
		}
	}
}

func TestLayParity(t *testing.T) {
	for count := range 14 {
		sectors := make([]byte, count*api.Sector)
		for i := range sectors {
			sectors[i] = byte(i*i/3 + i)
		}
		groups := (count + api.Group - 1) / api.Group
		parity := make([]byte, groups*api.Sector)
		layParity(parity, sectors)
		for g := range groups {
			sum := slices.Clone(parity[g*api.Sector : (g+1)*api.Sector])
			for s := g * api.Group; s < min((g+1)*api.Group, count); s++ {
				for i := range sum {
					sum[i] ^= sectors[s*api.Sector+i]
				}
			}
			if !slices.Equal(sum, make([]byte, api.Sector)) {
				t.Errorf("%d sectors: the group %d and its parity xored are %x", count, g, sum)
			}
		}
	}
}
