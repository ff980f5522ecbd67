// Package layout tells what stands where on a disk: the head, the levels and the
// parity.
package layout

import "hallmark/api"

// Row is sectors of a disk that stand side by side.
type Row struct {
	First int // the place of its first sector among all sectors
	Count int
}

// Plan tells where the sectors of a disk stand.
type Plan struct {
	Levels []Row // the data first, the top last
	Parity Row
}

// PlanOf tells the plan of a disk whose image has n sectors, 1 or more.
func PlanOf(n int) Plan {
	level := Row{First: 0, Count: n}
	levels := []Row{level}
	for len(levels) == 1 || level.Count > 1 {
		level = Row{First: level.end(), Count: shared(level.Count, api.Fan)}
		levels = append(levels, level)
	}
	parity := Row{First: level.end(), Count: shared(level.end(), api.Group)}
	return Plan{Levels: levels, Parity: parity}
}

// shared tells into how many lots things go, so many in each; the last lot may
// have fewer.
func shared(things, each int) int {
	return (things + each - 1) / each
}

// Guarded is the sectors of all levels: those that have a parity.
func (p Plan) Guarded() Row { return Row{First: 0, Count: p.Parity.First} }

// DiskSize tells how many bytes the disk has, its head too.
func (p Plan) DiskSize() int { return offset(p.Parity.end()) }

// Of tells the part of the disk on which the row stands: no copy of it.
func (r Row) Of(disk []byte) []byte {
	return disk[offset(r.First):offset(r.end())]
}

func (r Row) end() int { return r.First + r.Count }

// offset tells at which byte of the disk a sector begins.
func offset(place int) int { return api.Head + place*api.Sector }
