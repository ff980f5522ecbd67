// Package cache keeps the sectors that were had last.
package cache

import (
	"slices"

	"hallmark/layout"
)

// Cache is sectors that were found right, as many as it has room for.
type Cache struct {
	room int
	kept []entry // the one that was had longest ago first
}

type entry struct {
	spot   layout.Spot
	sector layout.Sector
}

// Of tells an empty cache with room for so many sectors, 0 or more.
func Of(room int) Cache { return Cache{room: room} }

// Find tells the sector of a spot, if it is kept: then it is had anew.
func (c *Cache) Find(spot layout.Spot) (layout.Sector, bool) {
	at := slices.IndexFunc(c.kept, func(e entry) bool { return e.spot == spot })
	if at < 0 {
		return layout.Sector{}, false
	}
	found := c.kept[at]
	c.kept = append(slices.Delete(c.kept, at, at+1), found)
	return found.sector, true
}

// Lay keeps a sector that Find did not find. Where there is no room for one
// more, the one that was had longest ago leaves.
func (c *Cache) Lay(spot layout.Spot, sector layout.Sector) {
	if c.room == 0 {
		return
	}
	if len(c.kept) == c.room {
		c.kept = slices.Delete(c.kept, 0, 1)
	}
	c.kept = append(c.kept, entry{spot, sector})
}
