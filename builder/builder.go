// Package builder lays an image on a disk.
package builder

import (
	"slices"

	"hallmark/api"
	"hallmark/digest"
	"hallmark/layout"
)

// Disk makes the disk of an image of one or more whole sectors.
func Disk(key []byte, salt [api.SaltSize]byte, image []byte) []byte {
	sectors := len(image) / api.Sector
	plan := layout.PlanOf(sectors)
	disk := make([]byte, plan.DiskSize())
	copy(plan.Levels[0].Of(disk), image)
	root := layTree(disk, plan, salt)
	layParity(plan.Parity.Of(disk), plan.Guarded().Of(disk))
	head := layout.Head{Sectors: sectors, Salt: salt, Root: root}.Bytes(key)
	copy(disk, head[:])
	return disk
}

// layTree lays the levels above the data, and tells the root.
func layTree(disk []byte, plan layout.Plan, salt [api.SaltSize]byte) [api.Hash]byte {
	below := plan.Levels[0].Of(disk)
	for _, level := range plan.Levels[1:] {
		room := level.Of(disk)
		layMarks(room, marks(salt, below))
		below = room
	}
	var root [api.Hash]byte
	layMarks(root[:], marks(salt, below))
	return root
}

// marks reckons the marks of a level's sectors, in order. It reads the level
// until the channel is closed: so who ranges over the channel must range to its
// end, and may lay the marks anywhere but there.
func marks(salt [api.SaltSize]byte, level []byte) <-chan [api.Hash]byte {
	out := make(chan [api.Hash]byte)
	go func() {
		defer close(out)
		for sector := range slices.Chunk(level, api.Sector) {
			out <- digest.Mark(salt, sector)
		}
	}()
	return out
}

// layMarks lays marks side by side: Fan of them fill a sector, without a gap.
// What is left of the room stays as it is.
func layMarks(room []byte, marks <-chan [api.Hash]byte) {
	at := 0
	for mark := range marks {
		at += copy(room[at:], mark[:])
	}
}

// layParity xors each sector into the parity of its group, which is all bytes 0
// at first.
func layParity(parity, sectors []byte) {
	for i, x := range sectors {
		group := i / (api.Group * api.Sector)
		parity[group*api.Sector+i%api.Sector] ^= x
	}
}
