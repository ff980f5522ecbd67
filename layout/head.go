package layout

import (
	"hallmark/api"
	"hallmark/digest"
)

const magic = "hall"

// Where in the head its parts begin.
const (
	countAt = len(magic)
	saltAt  = countAt + 2
	rootAt  = saltAt + api.SaltSize
	tagAt   = rootAt + api.Hash
)

// Head is what the head of a disk tells.
type Head struct {
	Sectors int // of the image
	Salt    [api.SaltSize]byte
	Root    [api.Hash]byte
}

// Bytes lays the head out, with its tag under the key.
func (h Head) Bytes(key []byte) [api.Head]byte {
	var whole [api.Head]byte
	copy(whole[:], magic)
	whole[countAt], whole[countAt+1] = byte(h.Sectors), byte(h.Sectors>>8)
	copy(whole[saltAt:], h.Salt[:])
	copy(whole[rootAt:], h.Root[:])
	tag := digest.Tag(key, whole[:tagAt])
	copy(whole[tagAt:], tag[:])
	return whole
}

// HeadOf reads the head of a disk; ErrHead, if it is none that was made under
// this key for an image that may be.
func HeadOf(key, disk []byte) (Head, error) {
	if len(disk) < api.Head {
		return Head{}, api.ErrHead
	}
	whole := [api.Head]byte(disk)
	h := Head{
		Sectors: int(whole[countAt]) + int(whole[countAt+1])<<8,
		Salt:    [api.SaltSize]byte(whole[saltAt:]),
		Root:    [api.Hash]byte(whole[rootAt:]),
	}
	// The head laid out anew holds the first four bytes, the tag and the bytes 0
	// to what they must be, all at once.
	if h.Bytes(key) != whole || h.Sectors < 1 || h.Sectors > api.MaxSectors {
		return Head{}, api.ErrHead
	}
	return h, nil
}
