package mac

import (
	"shallot/codec"
	"shallot/sha"
)

const (
	blockSize = 64 // a block of the hash, which the key fills
	innerMask = 0x36
	outerMask = 0x5c
)

// Tagger is a hash that ends with a tag. What is written goes to the inner hash, which begins with the masked key; the outer one is made when a tag is asked for, so that more can be written.
type Tagger struct {
	sha.Hash
	outer [blockSize]byte
}

// NewTagger returns one for this key to which nothing has been written but what HMAC requires.
func NewTagger(key []byte) *Tagger {
	k := fill(key)
	t := &Tagger{outer: masked(k, outerMask)}
	inner := masked(k, innerMask)
	t.Write(inner[:])
	return t
}

// Sum returns the tag of what was written.
func (t *Tagger) Sum() [32]byte {
	inner := t.Hash.Sum()
	return sha.Sum(t.outer[:], inner[:])
}

// Fits reports whether tag is the short tag of what was written.
func (t *Tagger) Fits(tag []byte) bool { return codec.Same(tag, shorten(t.Sum())) }

// fill returns the key with zero bytes behind it, or its hash if it is longer than the block.
func fill(key []byte) [blockSize]byte {
	var block [blockSize]byte
	if len(key) <= blockSize {
		copy(block[:], key)
		return block
	}
	sum := sha.Sum(key)
	copy(block[:], sum[:])
	return block
}

// masked returns the block, each byte xored with the mask.
func masked(block [blockSize]byte, mask byte) [blockSize]byte {
	for i := range block {
		block[i] ^= mask
	}
	return block
}
