package layout

import (
	"slices"
	"testing"

	"hallmark/api"
)

func counts(p Plan) []int {
	var all []int
	for _, level := range p.Levels {
		all = append(all, level.Count)
	}
	return all
}

func TestPlanOf(t *testing.T) {
	for _, c := range []struct {
		levels      []int
		parity, all int
	}{
		{[]int{1, 1}, 1, 320},
		{[]int{2, 1}, 1, 384},
		{[]int{3, 2, 1}, 2, 640},
		{[]int{4, 2, 1}, 2, 704},
		{[]int{5, 3, 2, 1}, 3, 1024},
		{[]int{8, 4, 2, 1}, 4, 1344},
		{[]int{9, 5, 3, 2, 1}, 5, 1728},
		{[]int{32, 16, 8, 4, 2, 1}, 16, 5184},
		{[]int{33, 17, 9, 5, 3, 2, 1}, 18, 5760},
		{[]int{40, 20, 10, 5, 3, 2, 1}, 21, 6656},
	} {
		n := c.levels[0]
		p := PlanOf(n)
		if got := counts(p); !slices.Equal(got, c.levels) {
			t.Errorf("%d sectors: levels of %v, want %v", n, got, c.levels)
		}
		if p.Parity.Count != c.parity {
			t.Errorf("%d sectors: %d of parity, want %d", n, p.Parity.Count, c.parity)
		}
		if p.DiskSize() != c.all {
			t.Errorf("%d sectors: a disk of %d bytes, want %d", n, p.DiskSize(), c.all)
		}
	}
}

// Every byte behind the head stands in one row, and the rows follow each other.
func TestRowsFillTheDisk(t *testing.T) {
	for n := 1; n <= api.MaxSectors; n++ {
		p := PlanOf(n)
		disk := make([]byte, p.DiskSize())
		for i, row := range append(slices.Clone(p.Levels), p.Parity) {
			for at := range row.Of(disk) {
				row.Of(disk)[at] += byte(1 + i)
			}
		}
		want := make([]byte, api.Head)
		for i, row := range append(slices.Clone(p.Levels), p.Parity) {
			want = append(want, slices.Repeat([]byte{byte(1 + i)}, row.Count*api.Sector)...)
		}
		if !slices.Equal(disk, want) {
			t.Errorf("%d sectors: the rows do not fill the disk one behind the other", n)
		}
	}
}

func TestGuarded(t *testing.T) {
	for n := 1; n <= api.MaxSectors; n++ {
		p := PlanOf(n)
		all := 0
		for _, count := range counts(p) {
			all += count
		}
		if got := p.Guarded(); got != (Row{0, all}) {
			t.Errorf("%d sectors: guarded are %v, want all %d", n, got, all)
		}
	}
}
