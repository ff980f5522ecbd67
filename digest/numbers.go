package digest

import "math/bits"

const (
	firstCount = 8
	roundCount = 64
	// rootBits is wide enough for the cube root of the 64th prime (311, so
	// below 8) and for the square root of the eighth (19), with 32 bits
	// behind the point.
	rootBits = 35
)

// numbers are the ones that the digest starts from (H) and stirs in (K).
type numbers struct {
	first [firstCount]uint32
	round [roundCount]uint32
}

// fixed is filled once, by init, and only read from then on.
var fixed numbers

func init() {
	prime := uint64(1)
	for i := range roundCount {
		prime = nextPrime(prime)
		fixed.round[i] = behindPoint(prime, cubeIsBelow)
		if i < firstCount {
			fixed.first[i] = behindPoint(prime, squareIsBelow)
		}
	}
}

func nextPrime(n uint64) uint64 {
	n++
	for !isPrime(n) {
		n++
	}
	return n
}

func isPrime(n uint64) bool {
	for d := uint64(2); d*d <= n; d++ {
		if n%d == 0 {
			return false
		}
	}
	return n >= 2
}

// behindPoint tells the first 32 bits behind the point of a prime's root. The
// root is sought as a whole number, 2 to the 32 times as great, bit by bit from
// the highest: so no rounding can spoil its last bit.
func behindPoint(prime uint64, isBelow func(root, prime uint64) bool) uint32 {
	root := uint64(0)
	for bit := rootBits - 1; bit >= 0; bit-- {
		longer := root | 1<<bit
		if isBelow(longer, prime) {
			root = longer
		}
	}
	return uint32(root)
}

// squareIsBelow holds root*root against prime shifted by 64 bits. The lower
// half need not be looked at: a prime is no square, so the two are never equal.
func squareIsBelow(root, prime uint64) bool {
	high, _ := bits.Mul64(root, root)
	return high < prime
}

// cubeIsBelow holds root*root*root against prime shifted by 96 bits. The lower
// half need not be looked at: a prime is no cube, so the two are never equal.
func cubeIsBelow(root, prime uint64) bool {
	squareHigh, squareLow := bits.Mul64(root, root)
	carried, _ := bits.Mul64(squareLow, root)
	return squareHigh*root+carried < prime<<32
}
