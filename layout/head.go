package layout

import (
	"hallmark/api"
	"hallmark/digest"
)

const magic = "hall"

// Head is what the head of a disk tells.
type Head struct {
	Sectors int // of the image
	Salt    [api.SaltSize]byte
	Root    [api.Hash]byte
}

// Bytes lays the head out, with its tag under the key.
func (h Head) Bytes(key []byte) [api.Head]byte {
	told := []byte(magic)
	told = append(told, byte(h.Sectors), byte(h.Sectors>>8))
	told = append(told, h.Salt[:]...)
	told = append(told, h.Root[:]...)
	tag := digest.Tag(key, told)
	var whole [api.Head]byte
	copy(whole[:], append(told, tag[:]...))
	return whole
}
