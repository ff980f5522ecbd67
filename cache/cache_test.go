package cache

import (
	"testing"

	"hallmark/layout"
)

func spot(i int) layout.Spot { return layout.Spot{Level: 1 + i%3, Index: i} }

func sector(i int) layout.Sector { return layout.Sector{0: byte(i), 63: byte(i + 1)} }

func lay(c *Cache, all ...int) {
	for _, i := range all {
		c.Lay(spot(i), sector(i))
	}
}

// holds checks by a copy: to be found would change what leaves next.
func holds(t *testing.T, c Cache, wanted ...int) {
	t.Helper()
	if len(c.kept) != len(wanted) {
		t.Errorf("%d are kept, want %v", len(c.kept), wanted)
		return
	}
	for at, i := range wanted {
		if c.kept[at] != (entry{spot(i), sector(i)}) {
			t.Errorf("the %d-th that was had is %v, want %d", at, c.kept[at], i)
		}
	}
}

func find(t *testing.T, c *Cache, i int) {
	t.Helper()
	if got, ok := c.Find(spot(i)); !ok || got != sector(i) {
		t.Errorf("%d: found %v, %v", i, got, ok)
	}
}

func miss(t *testing.T, c *Cache, i int) {
	t.Helper()
	if got, ok := c.Find(spot(i)); ok || got != (layout.Sector{}) {
		t.Errorf("%d: found %v, %v, want nothing", i, got, ok)
	}
}

func TestNoRoom(t *testing.T) {
	c := Of(0)
	lay(&c, 1, 2)
	holds(t, c)
	miss(t, &c, 1)
}

func TestRoomForOne(t *testing.T) {
	c := Of(1)
	miss(t, &c, 1)
	lay(&c, 1)
	find(t, &c, 1)
	lay(&c, 2)
	miss(t, &c, 1)
	find(t, &c, 2)
	holds(t, c, 2)
}

func TestTheOneHadLongestAgoLeaves(t *testing.T) {
	c := Of(3)
	lay(&c, 1, 2, 3)
	holds(t, c, 1, 2, 3)
	lay(&c, 4)
	holds(t, c, 2, 3, 4)
	lay(&c, 5, 6)
	holds(t, c, 4, 5, 6)
}

func TestToFindIsToHaveAnew(t *testing.T) {
	c := Of(3)
	lay(&c, 1, 2, 3)
	find(t, &c, 1)
	holds(t, c, 2, 3, 1)
	find(t, &c, 3)
	holds(t, c, 2, 1, 3)
	find(t, &c, 3)
	holds(t, c, 2, 1, 3)
	lay(&c, 4)
	holds(t, c, 1, 3, 4)
	miss(t, &c, 2)
	holds(t, c, 1, 3, 4)
}

func TestSpotsAreTold(t *testing.T) {
	c := Of(9)
	c.Lay(layout.Spot{Level: 1, Index: 2}, sector(12))
	c.Lay(layout.Spot{Level: 2, Index: 1}, sector(21))
	if got, ok := c.Find(layout.Spot{Level: 1, Index: 2}); !ok || got != sector(12) {
		t.Errorf("the sector 2 of the level 1: %v, %v", got, ok)
	}
	if got, ok := c.Find(layout.Spot{Level: 2, Index: 1}); !ok || got != sector(21) {
		t.Errorf("the sector 1 of the level 2: %v, %v", got, ok)
	}
	for _, other := range []layout.Spot{{Level: 1, Index: 1}, {Level: 2, Index: 2}, {}} {
		if _, ok := c.Find(other); ok {
			t.Errorf("%v was found", other)
		}
	}
}

func TestManyAreKept(t *testing.T) {
	c := Of(100)
	for i := range 150 {
		lay(&c, i)
	}
	for i := range 150 {
		if i < 50 {
			miss(t, &c, i)
		} else {
			find(t, &c, i)
		}
	}
	if len(c.kept) != 100 {
		t.Errorf("%d are kept, want 100", len(c.kept))
	}
}

func TestCachesShareNothing(t *testing.T) {
	first, second := Of(2), Of(2)
	lay(&first, 1)
	miss(t, &second, 1)
	got, _ := first.Find(spot(1))
	got[0] = 99
	find(t, &first, 1)
}
