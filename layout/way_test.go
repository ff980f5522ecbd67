package layout

import (
	"slices"
	"testing"

	"hallmark/api"
)

func TestWay(t *testing.T) {
	for _, c := range []struct {
		n, i int
		way  []Spot
	}{
		{1, 0, []Spot{{1, 0}, {0, 0}}},
		{2, 0, []Spot{{1, 0}, {0, 0}}},
		{2, 1, []Spot{{1, 0}, {0, 1}}},
		{3, 2, []Spot{{2, 0}, {1, 1}, {0, 2}}},
		{5, 0, []Spot{{3, 0}, {2, 0}, {1, 0}, {0, 0}}},
		{5, 3, []Spot{{3, 0}, {2, 0}, {1, 1}, {0, 3}}},
		{5, 4, []Spot{{3, 0}, {2, 1}, {1, 2}, {0, 4}}},
		{40, 0, []Spot{{6, 0}, {5, 0}, {4, 0}, {3, 0}, {2, 0}, {1, 0}, {0, 0}}},
		{40, 39, []Spot{{6, 0}, {5, 1}, {4, 2}, {3, 4}, {2, 9}, {1, 19}, {0, 39}}},
	} {
		if got := slices.Collect(PlanOf(c.n).Way(c.i)); !slices.Equal(got, c.way) {
			t.Errorf("%d sectors, the way to %d is %v, want %v", c.n, c.i, got, c.way)
		}
	}
}

// Each step stands in its level, and is one of the Fan below the step above it.
func TestWayStaysInTheTree(t *testing.T) {
	for n := 1; n <= api.MaxSectors; n++ {
		p := PlanOf(n)
		for i := range n {
			upper := Spot{Level: len(p.Levels), Index: 0}
			for spot := range p.Way(i) {
				if spot.Level != upper.Level-1 || spot.Index/api.Fan != upper.Index || spot.Index >= p.Levels[spot.Level].Count {
					t.Errorf("%d sectors, on the way to %d: %v below %v", n, i, spot, upper)
				}
				upper = spot
			}
			if upper != (Spot{0, i}) {
				t.Errorf("%d sectors, the way to %d ends at %v", n, i, upper)
			}
		}
	}
}

func TestWayMayBeLeft(t *testing.T) {
	way := PlanOf(40).Way(39)
	for steps := 1; steps <= 7; steps++ {
		gone := 0
		for range way {
			gone++
			if gone == steps {
				break
			}
		}
		if gone != steps {
			t.Errorf("the way was left at step %d, but gone to %d", steps, gone)
		}
	}
}

func TestMarkIn(t *testing.T) {
	sector := make([]byte, api.Sector)
	for i := range sector {
		sector[i] = byte(i)
	}
	for index, first := range []byte{0, 32, 0, 32, 0} {
		mark := Spot{Level: 1, Index: index}.MarkIn(sector)
		if mark[0] != first || mark[31] != first+31 {
			t.Errorf("the mark of the %d-th is %d", index, mark)
		}
	}
}

func TestMarkInTheRoot(t *testing.T) {
	root := [api.Hash]byte{5, 6, 31: 7}
	for n := 1; n <= api.MaxSectors; n++ {
		for top := range PlanOf(n).Way(n - 1) {
			if got := top.MarkIn(root[:]); got != root {
				t.Errorf("%d sectors: the top's mark is %d, want the root", n, got)
			}
			break
		}
	}
}

func TestPlace(t *testing.T) {
	p := PlanOf(5)
	for place, spot := range []Spot{{0, 0}, {0, 1}, {0, 2}, {0, 3}, {0, 4}, {1, 0}, {1, 1}, {1, 2}, {2, 0}, {2, 1}, {3, 0}} {
		if got := p.Place(spot); got != place {
			t.Errorf("the place of %v is %d, want %d", spot, got, place)
		}
	}
}

func TestPartners(t *testing.T) {
	for _, c := range []struct {
		n, place int
		partners []int
	}{
		{1, 0, []int{1, 2}},
		{1, 1, []int{0, 2}},
		{5, 0, []int{1, 2, 3, 11}},
		{5, 3, []int{0, 1, 2, 11}},
		{5, 4, []int{5, 6, 7, 12}},
		{5, 6, []int{4, 5, 7, 12}},
		{5, 8, []int{9, 10, 13}},
		{5, 10, []int{8, 9, 13}},
		{10, 20, []int{26}}, // the top is alone in its group
		{40, 80, []int{101}},
	} {
		if got := PlanOf(c.n).Partners(c.place); !slices.Equal(got, c.partners) {
			t.Errorf("%d sectors, the partners of %d are %v, want %v", c.n, c.place, got, c.partners)
		}
	}
}

func TestSectorAt(t *testing.T) {
	for n := 1; n <= api.MaxSectors; n++ {
		p := PlanOf(n)
		disk := make([]byte, p.DiskSize())
		for i := range disk {
			disk[i] = byte(i * 7 / 3)
		}
		for place := range p.Parity.end() {
			sector := SectorAt(disk, place)
			at := 128 + 64*place
			if !slices.Equal(sector[:], disk[at:at+64]) {
				t.Errorf("%d sectors: the sector %d is %d", n, place, sector)
			}
		}
	}
}

func TestSectorIsACopy(t *testing.T) {
	disk := make([]byte, PlanOf(1).DiskSize())
	sector := SectorAt(disk, 0)
	disk[api.Head] = 9
	if sector != (Sector{}) {
		t.Errorf("a sector that was read changed with the disk")
	}
	sector[1] = 8
	if disk[api.Head+1] != 0 {
		t.Errorf("the disk changed with a sector that was read")
	}
}
