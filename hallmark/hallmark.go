// Package hallmark: a volume on a disk that nobody trusts: see DOC.md.
package hallmark

import (
	"hallmark/api"
	"hallmark/builder"
	"hallmark/digest"
	"hallmark/reader"
)

// Digest tells the digest of bytes (P3).
func Digest(b []byte) [api.Hash]byte { return digest.Of(b) }

// Tag tells the tag of bytes under a key (P4).
func Tag(key []byte, b []byte) [api.Hash]byte { return digest.Tag(key, b) }

// Build lays an image on a disk (P5).
func Build(key []byte, salt []byte, image []byte) ([]byte, error) {
	if len(key) > api.MaxKey || len(salt) != api.SaltSize || !isImage(image) {
		return nil, api.ErrArg
	}
	return builder.Disk(key, [api.SaltSize]byte(salt), image), nil
}

// isImage tells whether these are whole sectors, neither none nor too many.
func isImage(b []byte) bool {
	return len(b) > 0 && len(b) <= api.MaxSectors*api.Sector && len(b)%api.Sector == 0
}

// Volume is a disk that was mounted.
type Volume struct {
	reader *reader.Reader
}

// Mount looks at a disk's head (P6).
func Mount(key []byte, disk []byte, cache int) (*Volume, error) {
	if len(key) > api.MaxKey || cache < 0 || cache > api.MaxCache {
		return nil, api.ErrArg
	}
	r, err := reader.Open(key, disk, cache)
	if err != nil {
		return nil, err
	}
	return &Volume{reader: r}, nil
}

// Size tells how many sectors there are (P6).
func (v *Volume) Size() int { return v.reader.Size() }

// Read tells a sector (P7).
func (v *Volume) Read(i int) ([]byte, error) { return v.reader.Read(i) }

// Poke changes a byte of the disk, behind the volume's back (P8).
func (v *Volume) Poke(at int, b byte) error { return v.reader.Poke(at, b) }

// Cost tells what reading has cost so far (P9).
func (v *Volume) Cost() api.Count { return v.reader.Cost() }
