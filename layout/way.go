package layout

import (
	"iter"

	"hallmark/api"
)

// Spot is where a sector stands in the tree.
type Spot struct {
	Level int // 0: the data
	Index int // its place in the level, from 0 on
}

// Way goes from the top down to the i-th sector of the data.
func (p Plan) Way(i int) iter.Seq[Spot] {
	return func(yield func(Spot) bool) {
		for level := len(p.Levels) - 1; level >= 0; level-- {
			if !yield(Spot{Level: level, Index: ancestor(i, level)}) {
				return
			}
		}
	}
}

// ancestor tells which sector stands so many levels above the i-th of the data.
func ancestor(i, levels int) int {
	for range levels {
		i /= api.Fan
	}
	return i
}

// MarkIn tells the mark that stands for this spot in the sector above it. Above
// the top stands the root, which has the first place, as the top has.
func (s Spot) MarkIn(above []byte) [api.Hash]byte {
	at := s.Index % api.Fan * api.Hash
	return [api.Hash]byte(above[at : at+api.Hash])
}

// Place tells a spot's place among all sectors.
func (p Plan) Place(s Spot) int { return p.Levels[s.Level].First + s.Index }

// Partners tells the places of the sectors whose xor is the sector at this
// place: all others of its group, and their parity.
func (p Plan) Partners(place int) []int {
	group := place / api.Group
	end := min((group+1)*api.Group, p.Guarded().end())
	var partners []int
	for other := group * api.Group; other < end; other++ {
		if other != place {
			partners = append(partners, other)
		}
	}
	return append(partners, p.Parity.First+group)
}
