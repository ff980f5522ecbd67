package reader

import (
	"bytes"
	"errors"
	"testing"

	"hallmark/api"
	"hallmark/builder"
	"hallmark/digest"
	"hallmark/layout"
)

func made(n int) (disk, image []byte) {
	image = make([]byte, api.Sector*n)
	for i := range image {
		image[i] = byte(i*7 + i/64)
	}
	return builder.Disk([]byte("key"), [api.SaltSize]byte{1, 2, 3}, image), image
}

func open(t *testing.T, disk []byte, room int) *Reader {
	t.Helper()
	r, err := Open([]byte("key"), disk, room)
	if err != nil {
		t.Fatalf("Open of %d bytes: %v", len(disk), err)
	}
	return r
}

func TestOpen(t *testing.T) {
	for n := 1; n <= api.MaxSectors; n++ {
		disk, image := made(n)
		r := open(t, disk, 9)
		if r.Size() != n || r.Cost() != (api.Count{}) {
			t.Errorf("of %d sectors: Size() = %d, Cost() = %v", n, r.Size(), r.Cost())
		}
		clear(disk)
		for i := range n {
			if got, err := r.Read(i); err != nil || !bytes.Equal(got, image[64*i:64*i+64]) {
				t.Errorf("of %d sectors: Read(%d) = %x, %v", n, i, got, err)
			}
		}
	}
}

func TestOpenRefuses(t *testing.T) {
	disk, _ := made(5)
	for _, bad := range [][]byte{nil, disk[:127], disk[:128], disk[:len(disk)-64], append(bytes.Clone(disk), 0)} {
		if r, err := Open([]byte("key"), bad, 0); r != nil || err != api.ErrHead {
			t.Errorf("Open of %d bytes = %v, %v", len(bad), r, err)
		}
	}
	if r, err := Open([]byte("kez"), disk, 0); r != nil || err != api.ErrHead {
		t.Errorf("Open under another key = %v, %v", r, err)
	}
}

// Each sector of the levels is what its partners xor to.
func TestHaveAgain(t *testing.T) {
	for n := 1; n <= api.MaxSectors; n++ {
		disk, _ := made(n)
		r := open(t, disk, 0)
		for place := range r.plan.Guarded().Count {
			before := r.Cost()
			if r.haveAgain(place) != layout.SectorAt(disk, place) {
				t.Errorf("of %d sectors: %d is not had again", n, place)
			}
			after := r.Cost()
			if after.Repairs != before.Repairs+1 || after.Reads != before.Reads+len(r.plan.Partners(place)) {
				t.Errorf("of %d sectors: to have %d again costs %v, ahead of it %v", n, place, after, before)
			}
		}
	}
}

func TestFetch(t *testing.T) {
	disk, _ := made(5)
	r := open(t, disk, 0)
	spot, right := layout.Spot{Level: 1, Index: 2}, layout.SectorAt(disk, 7)
	mark := digest.Mark(r.head.Salt, right[:])
	if got, err := r.fetch(spot, mark); got != right || err != nil {
		t.Errorf("as it stands: %v, %v", got, err)
	}
	r.Poke(128+64*7+3, 99)
	if got, err := r.fetch(spot, mark); got != right || err != nil {
		t.Errorf("had again: %v, %v", got, err)
	}
	mark[31] ^= 1
	_, err := r.fetch(spot, mark)
	var broken api.Broken
	if !errors.As(err, &broken) || broken != (api.Broken{Level: 1, Index: 2}) {
		t.Errorf("of another mark: %v", err)
	}
}

// The last bytes of a mark count as the first ones do.
func TestCheck(t *testing.T) {
	disk, _ := made(1)
	r := open(t, disk, 0)
	sector := layout.SectorAt(disk, 0)
	mark := digest.Mark(r.head.Salt, sector[:])
	if err := r.check(layout.Spot{}, sector, mark); err != nil {
		t.Errorf("the right mark: %v", err)
	}
	for i := range mark {
		for bit := range 8 {
			other := mark
			other[i] ^= 1 << bit
			if err := r.check(layout.Spot{Level: 3, Index: 4}, sector, other); err != (api.Broken{Level: 3, Index: 4}) {
				t.Errorf("the bit %d of the byte %d is another: %v", bit, i, err)
			}
		}
	}
}

func TestOnlyWhatIsRightIsKept(t *testing.T) {
	disk, _ := made(5)
	r := open(t, disk, 9)
	r.Poke(128+64*7, disk[128+64*7]^1)
	r.Poke(128+64*6, disk[128+64*6]^1)
	r.Read(4)
	for spot, kept := range map[layout.Spot]bool{
		{Level: 3, Index: 0}: true,
		{Level: 2, Index: 1}: true,
		{Level: 1, Index: 2}: false,
		{Level: 0, Index: 4}: false,
	} {
		if _, ok := r.cache.Find(spot); ok != kept {
			t.Errorf("%v is kept: %v, want %v", spot, ok, kept)
		}
	}
}
