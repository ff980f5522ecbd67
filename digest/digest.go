// Package digest reckons the digest (SHA-256) and the tag (HMAC with SHA-256)
// of bytes.
package digest

import (
	"math/bits"

	"hallmark/api"
)

const (
	blockSize  = 64 // bytes that are stirred in at a time
	wordSize   = 4  // bytes of a number
	lengthSize = 8  // bytes that tell the length, at the end of the last block
)

// running is a digest of which some bytes have come in. It holds a block of its
// own, so that what comes in is neither made longer in place nor copied whole.
type running struct {
	state  [firstCount]uint32
	block  [blockSize]byte
	length uint64 // bytes that came in so far
}

// Of tells the digest of the parts, as if they were one list.
func Of(parts ...[]byte) [api.Hash]byte {
	r := running{state: fixed.first}
	for _, part := range parts {
		r.add(part)
	}
	return r.finish()
}

func (r *running) add(b []byte) {
	for _, x := range b {
		r.addByte(x)
	}
}

func (r *running) addByte(x byte) {
	r.block[r.length%blockSize] = x
	r.length++
	if r.length%blockSize == 0 {
		r.state = stir(r.state, r.block)
	}
}

func (r *running) finish() [api.Hash]byte {
	bitLength := r.length * 8
	r.addByte(128)
	for r.length%blockSize != blockSize-lengthSize {
		r.addByte(0)
	}
	for shift := 56; shift >= 0; shift -= 8 {
		r.addByte(byte(bitLength >> shift))
	}
	return spread(r.state)
}

// stir tells the state behind one more block. The letters are those of the
// document.
func stir(state [firstCount]uint32, block [blockSize]byte) [firstCount]uint32 {
	words := schedule(block)
	a, b, c, d := state[0], state[1], state[2], state[3]
	e, f, g, h := state[4], state[5], state[6], state[7]
	for t := range roundCount {
		t1 := h + turns(e, 6, 11, 25) + (e&f ^ ^e&g) + fixed.round[t] + words[t]
		t2 := turns(a, 2, 13, 22) + (a&b ^ a&c ^ b&c)
		h, g, f, e = g, f, e, d+t1
		d, c, b, a = c, b, a, t1+t2
	}
	return [firstCount]uint32{
		state[0] + a, state[1] + b, state[2] + c, state[3] + d,
		state[4] + e, state[5] + f, state[6] + g, state[7] + h,
	}
}

// schedule tells the numbers W of a block.
func schedule(block [blockSize]byte) [roundCount]uint32 {
	var words [roundCount]uint32
	for i, x := range block {
		words[i/wordSize] = words[i/wordSize]<<8 | uint32(x)
	}
	for t := blockSize / wordSize; t < roundCount; t++ {
		near, far := words[t-2], words[t-15]
		near = ror(near, 17) ^ ror(near, 19) ^ near>>10
		far = ror(far, 7) ^ ror(far, 18) ^ far>>3
		words[t] = near + words[t-7] + far + words[t-16]
	}
	return words
}

func turns(x uint32, i, j, k int) uint32 {
	return ror(x, i) ^ ror(x, j) ^ ror(x, k)
}

func ror(x uint32, n int) uint32 {
	return bits.RotateLeft32(x, -n)
}

// spread lays the state out as bytes, the highest of each number first.
func spread(state [firstCount]uint32) [api.Hash]byte {
	var out [api.Hash]byte
	for i := range out {
		shift := 8 * (wordSize - 1 - i%wordSize)
		out[i] = byte(state[i/wordSize] >> shift)
	}
	return out
}
