package digest

import "hallmark/api"

// Mark tells a sector's mark under a salt.
func Mark(salt [api.SaltSize]byte, sector []byte) [api.Hash]byte {
	return Of(salt[:], sector)
}
