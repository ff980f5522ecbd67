package hallmark_test

import (
	"bytes"
	"testing"

	"hallmark/api"
	"hallmark/hallmark"
)

// spotOf is a level, and a place in it.
type spotOf struct{ level, index int }

type heldSector struct {
	bytes []byte
	when  int
}

// model is a volume by the document, word for word, with the library's digests:
// what a Volume answers is held against it. Its cache tells the time of each
// having, where the program's own has an order.
type model struct {
	salt, root []byte
	counts     []int // of the sectors of each level
	disk       []byte
	room       int
	cache      map[spotOf]heldSector
	clock      int
	cost       api.Count
}

// newModel takes a disk whose head is right.
func newModel(disk []byte, room int) *model {
	m := &model{salt: bytes.Clone(disk[6:14]), root: bytes.Clone(disk[14:46]), disk: bytes.Clone(disk), room: room, cache: map[spotOf]heldSector{}}
	m.counts = levelsOf(int(disk[4]))
	return m
}

// levelsOf is how many sectors each level has, the data first.
func levelsOf(n int) []int {
	counts := []int{n, (n + 1) / 2}
	for counts[len(counts)-1] > 1 {
		counts = append(counts, (counts[len(counts)-1]+1)/2)
	}
	return counts
}

// guardedOf is how many sectors of a disk of n stand ahead of its parity.
func guardedOf(n int) int {
	all := 0
	for _, count := range levelsOf(n) {
		all += count
	}
	return all
}

// parityPlaceOf is the place of the parity of a sector's group.
func parityPlaceOf(n, place int) int { return guardedOf(n) + place/4 }

// placeOf is a spot's place among all sectors of a disk of n.
func placeOf(n int, s spotOf) int {
	place := s.index
	for _, count := range levelsOf(n)[:s.level] {
		place += count
	}
	return place
}

func (m *model) size() int { return m.counts[0] }

func (m *model) poke(at int, b byte) error {
	if at < 0 || at >= len(m.disk) {
		return api.ErrRange
	}
	m.disk[at] = b
	return nil
}

func (m *model) read(i int) ([]byte, error) {
	if i < 0 || i >= m.size() {
		return nil, api.ErrRange
	}
	mark := m.root
	for level := len(m.counts) - 1; ; level-- {
		s := spotOf{level, i >> level}
		sector := m.have(s, mark)
		if sector == nil {
			return nil, api.Failed{Sector: i, Cause: api.Broken{Level: s.level, Index: s.index}}
		}
		if level == 0 {
			return sector, nil
		}
		if (i>>(level-1))%2 == 0 {
			mark = sector[:32]
		} else {
			mark = sector[32:]
		}
	}
}

// have is nil, if the sector cannot be had.
func (m *model) have(s spotOf, mark []byte) []byte {
	m.clock++
	if held, ok := m.cache[s]; ok {
		m.cost.Hits++
		m.cache[s] = heldSector{held.bytes, m.clock}
		return held.bytes
	}
	place := placeOf(m.size(), s)
	sector := m.fromDisk(place)
	if !bytes.Equal(markOf(m.salt, sector), mark) {
		m.cost.Repairs++
		sector = m.again(place)
		if !bytes.Equal(markOf(m.salt, sector), mark) {
			return nil
		}
	}
	if s.level > 0 && m.room > 0 {
		m.keep(s, sector)
	}
	return sector
}

func (m *model) keep(s spotOf, sector []byte) {
	m.cache[s] = heldSector{sector, m.clock}
	if len(m.cache) <= m.room {
		return
	}
	oldest := s
	for other, held := range m.cache {
		if held.when < m.cache[oldest].when {
			oldest = other
		}
	}
	delete(m.cache, oldest)
}

func (m *model) fromDisk(place int) []byte {
	m.cost.Reads++
	return bytes.Clone(m.disk[128+64*place : 192+64*place])
}

func (m *model) again(place int) []byte {
	sum := m.fromDisk(parityPlaceOf(m.size(), place))
	for other := range guardedOf(m.size()) {
		if other != place && other/4 == place/4 {
			for i, x := range m.fromDisk(other) {
				sum[i] ^= x
			}
		}
	}
	return sum
}

// pair is a volume and its model, that are called alike.
type pair struct {
	t *testing.T
	v *hallmark.Volume
	m *model
}

func mountPair(t *testing.T, key, disk []byte, cache int) pair {
	t.Helper()
	v, err := hallmark.Mount(key, disk, cache)
	if err != nil || v == nil {
		t.Fatalf("P6: Mount of %d bytes, a cache of %d: %v", len(disk), cache, err)
	}
	return pair{t, v, newModel(disk, cache)}
}

func (p pair) read(i int) {
	p.t.Helper()
	got, err := p.v.Read(i)
	want, wantErr := p.m.read(i)
	if err != wantErr || !bytes.Equal(got, want) || (err != nil && got != nil) {
		p.t.Errorf("P7: of %d sectors, a cache of %d: Read(%d) = %x, %v, want %x, %v", p.m.size(), p.m.room, i, got, err, want, wantErr)
	}
	p.checkCost()
}

func (p pair) poke(at int, b byte) {
	p.t.Helper()
	if err, want := p.v.Poke(at, b), p.m.poke(at, b); err != want {
		p.t.Errorf("P8: of %d sectors: Poke(%d) = %v, want %v", p.m.size(), at, err, want)
	}
	p.checkCost()
}

func (p pair) checkCost() {
	p.t.Helper()
	if got := p.v.Cost(); got != p.m.cost {
		p.t.Errorf("P9: of %d sectors, a cache of %d: Cost() = %+v, want %+v", p.m.size(), p.m.room, got, p.m.cost)
	}
	if got := p.v.Size(); got != p.m.size() {
		p.t.Errorf("P6: Size() = %d, want %d", got, p.m.size())
	}
}

// The caches that are tried: none, one, fewer than a way has steps, as many, more
// than a tree has sectors.
func cachesTried() []int { return []int{0, 1, 2, 3, 5, 6, 7, 13, 40, 41, 100} }

// chances is a row of numbers that looks mixed, and is the same at each run.
type chances struct{ state uint32 }

func (c *chances) below(n int) int {
	c.state = c.state*1664525 + 1013904223
	return int(uint64(c.state>>4) % uint64(n))
}

// TestP7LikeTheModel pokes, lays back and reads, as chance will have it.
func TestP7LikeTheModel(t *testing.T) {
	for n := 1; n <= api.MaxSectors; n++ {
		disk := diskOf([]byte("key"), mixedBytes(8, uint32(n)), mixedBytes(64*n, 60))
		for _, cache := range cachesTried() {
			p := mountPair(t, []byte("key"), disk, cache)
			c := chances{uint32(n*1000 + cache)}
			for range 150 {
				at := c.below(len(disk))
				switch c.below(8) {
				case 0:
					p.poke(at, byte(c.below(256)))
				case 1:
					p.poke(at, disk[at]^1)
				case 2, 3:
					for place := range 64 {
						at := at/64*64 + place
						p.poke(at, disk[at])
					}
				default:
					p.read(c.below(n))
				}
			}
		}
	}
}

func FuzzP7(f *testing.F) {
	f.Add(5, 3, []byte{0, 4, 0, 4, 200, 9, 0, 4})
	f.Add(1, 0, []byte{0, 0, 255, 255, 0, 0})
	f.Add(40, 100, []byte{0, 39, 129, 7, 0, 38, 0, 39})
	f.Fuzz(func(t *testing.T, n, cache int, calls []byte) {
		if n < 1 || n > api.MaxSectors || cache < 0 || cache > api.MaxCache || len(calls) > 400 {
			return
		}
		disk := diskOf([]byte("key"), []byte("saltsalt"), mixedBytes(64*n, 61))
		p := mountPair(t, []byte("key"), disk, cache)
		for len(calls) >= 2 {
			if number := int(calls[0])<<8 + int(calls[1]); number < 64 {
				p.read(number - 2)
			} else {
				p.poke(number%(len(disk)+2)-1, calls[1]*31)
			}
			calls = calls[2:]
		}
	})
}
