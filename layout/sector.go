package layout

import "hallmark/api"

// Sector is the bytes of a sector, as a value: it stays as it was read, whatever
// is written on the disk later.
type Sector [api.Sector]byte

// SectorAt reads the sector at a place among all sectors.
func SectorAt(disk []byte, place int) Sector {
	return Sector(Row{First: place, Count: 1}.Of(disk))
}
