// Package reader reads an image from a disk that nobody trusts.
package reader

import (
	"bytes"
	"errors"

	"hallmark/api"
	"hallmark/cache"
	"hallmark/digest"
	"hallmark/layout"
)

// Reader is a disk whose head was found right.
type Reader struct {
	head  layout.Head
	plan  layout.Plan
	disk  []byte
	cache cache.Cache
	cost  api.Count
}

// Open looks at a disk's head, and takes a copy of the disk; room is how many
// sectors the cache may hold.
func Open(key, disk []byte, room int) (*Reader, error) {
	head, err := layout.HeadOf(key, disk)
	if err != nil {
		return nil, err
	}
	plan := layout.PlanOf(head.Sectors)
	if len(disk) != plan.DiskSize() {
		return nil, api.ErrHead
	}
	return &Reader{head: head, plan: plan, disk: bytes.Clone(disk), cache: cache.Of(room)}, nil
}

// Size tells how many sectors the image has.
func (r *Reader) Size() int { return r.head.Sectors }

// Cost tells what all Reads so far have cost.
func (r *Reader) Cost() api.Count { return r.cost }

// Poke changes a byte of the disk.
func (r *Reader) Poke(at int, b byte) error {
	if at < 0 || at >= len(r.disk) {
		return api.ErrRange
	}
	r.disk[at] = b
	return nil
}

// Read tells the i-th sector of the image.
func (r *Reader) Read(i int) ([]byte, error) {
	if i < 0 || i >= r.head.Sectors {
		return nil, api.ErrRange
	}
	had := r.head.Root[:]
	for spot := range r.plan.Way(i) {
		sector, err := r.have(spot, spot.MarkIn(had))
		if err != nil {
			return nil, api.Failed{Sector: i, Cause: err}
		}
		had = sector[:]
	}
	return had, nil
}

// have tells the sector of a spot, that must have this mark, from the cache or
// from the disk. One that was found in the cache was held against the same mark
// once: for the root stays, and so does all that it stands for.
func (r *Reader) have(spot layout.Spot, mark [api.Hash]byte) (layout.Sector, error) {
	if sector, ok := r.cache.Find(spot); ok {
		r.cost.Hits++
		return sector, nil
	}
	sector, err := r.fetch(spot, mark)
	if err == nil && spot.Level > 0 {
		r.cache.Lay(spot, sector)
	}
	return sector, err
}

// fetch tells the sector of a spot, that must have this mark, as it stands on
// the disk, or had again.
func (r *Reader) fetch(spot layout.Spot, mark [api.Hash]byte) (layout.Sector, error) {
	place := r.plan.Place(spot)
	sector := r.read(place)
	err := r.check(spot, sector, mark)
	var spoilt api.Broken
	if errors.As(err, &spoilt) {
		sector = r.haveAgain(place)
		err = r.check(spot, sector, mark)
	}
	return sector, err
}

// check tells a Broken of the spot, if the sector has not this mark.
func (r *Reader) check(spot layout.Spot, sector layout.Sector, mark [api.Hash]byte) error {
	if digest.Mark(r.head.Salt, sector[:]) == mark {
		return nil
	}
	return api.Broken{Level: spot.Level, Index: spot.Index}
}

// haveAgain reckons what must have stood at a place, from what its group and the
// parity are now.
func (r *Reader) haveAgain(place int) layout.Sector {
	r.cost.Repairs++
	var sum layout.Sector
	for _, partner := range r.plan.Partners(place) {
		for i, x := range r.read(partner) {
			sum[i] ^= x
		}
	}
	return sum
}

// read tells the sector at a place, whatever stands there.
func (r *Reader) read(place int) layout.Sector {
	r.cost.Reads++
	return layout.SectorAt(r.disk, place)
}
