package digest

import (
	"math/big"
	"testing"
)

var primes = [roundCount]int64{
	2, 3, 5, 7, 11, 13, 17, 19, 23, 29, 31, 37, 41, 43, 47, 53,
	59, 61, 67, 71, 73, 79, 83, 89, 97, 101, 103, 107, 109, 113, 127, 131,
	137, 139, 149, 151, 157, 163, 167, 173, 179, 181, 191, 193, 197, 199, 211, 223,
	227, 229, 233, 239, 241, 251, 257, 263, 269, 271, 277, 281, 283, 293, 307, 311,
}

// isRoot tells whether some whole number with these 32 bits behind the point is
// the root of that power, cut off: not above the prime, and the next one above.
func isRoot(behind uint32, prime int64, power int64) bool {
	exponent := big.NewInt(power)
	scaled := new(big.Int).Lsh(big.NewInt(prime), uint(32*power))
	for whole := range int64(20) {
		root := big.NewInt(whole<<32 | int64(behind))
		next := new(big.Int).Add(root, big.NewInt(1))
		root.Exp(root, exponent, nil)
		next.Exp(next, exponent, nil)
		if root.Cmp(scaled) <= 0 && next.Cmp(scaled) > 0 {
			return true
		}
	}
	return false
}

func TestNumbersAreRootsOfPrimes(t *testing.T) {
	for i, k := range fixed.round {
		if !isRoot(k, primes[i], 3) {
			t.Errorf("K %d = %08x is not behind the point of the cube root of %d", i, k, primes[i])
		}
	}
	for i, h := range fixed.first {
		if !isRoot(h, primes[i], 2) {
			t.Errorf("H %d = %08x is not behind the point of the square root of %d", i, h, primes[i])
		}
	}
}

// The numbers as they are printed elsewhere, so that one fault in both ways of
// reckoning them would still be seen.
func TestNumbersThatAreKnown(t *testing.T) {
	first := [firstCount]uint32{
		0x6a09e667, 0xbb67ae85, 0x3c6ef372, 0xa54ff53a,
		0x510e527f, 0x9b05688c, 0x1f83d9ab, 0x5be0cd19,
	}
	if fixed.first != first {
		t.Errorf("H = %08x, want %08x", fixed.first, first)
	}
	for i, want := range map[int]uint32{0: 0x428a2f98, 1: 0x71374491, 31: 0x14292967, 32: 0x27b70a85, 63: 0xc67178f2} {
		if fixed.round[i] != want {
			t.Errorf("K %d = %08x, want %08x", i, fixed.round[i], want)
		}
	}
}

func TestNextPrime(t *testing.T) {
	prime := uint64(1)
	for _, want := range primes {
		prime = nextPrime(prime)
		if prime != uint64(want) {
			t.Fatalf("the next prime is %d, want %d", prime, want)
		}
	}
}
