package digest

import "hallmark/api"

const (
	outerPad = 92
	innerPad = 54
)

// Tag tells the tag of bytes under a key.
func Tag(key []byte, b []byte) [api.Hash]byte {
	whole := wholeKey(key)
	outer, inner := masked(whole, outerPad), masked(whole, innerPad)
	inside := Of(inner[:], b)
	return Of(outer[:], inside[:])
}

// wholeKey makes a key one block long: its digest stands for one that is longer.
func wholeKey(key []byte) [blockSize]byte {
	var whole [blockSize]byte
	if len(key) > blockSize {
		short := Of(key)
		copy(whole[:], short[:])
	} else {
		copy(whole[:], key)
	}
	return whole
}

func masked(whole [blockSize]byte, pad byte) [blockSize]byte {
	for i := range whole {
		whole[i] ^= pad
	}
	return whole
}
