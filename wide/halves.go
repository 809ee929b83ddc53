package wide

import (
	"shallot/chacha"
	"shallot/codec"
	"shallot/mac"
)

// halves are the first 32 bytes of a block, and the rest. A round makes new ones, and leaves those that it got.
type halves struct{ left, right []byte }

func split(block []byte) halves { return halves{block[:leftSize], block[leftSize:]} }

// round returns the halves behind a round.
func (h halves) round(n int, key [32]byte) halves {
	if n%2 == 1 {
		return h.turnRight(key)
	}
	return h.tagLeft(key)
}

// turnRight xors the rest with a stream that hangs on the first bytes.
func (h halves) turnRight(key [32]byte) halves {
	mixed, _ := codec.Xor(h.left, key[:])
	right, _ := chacha.Turn(mixed, h.right) // always OK: MaxWide is within MaxStream
	return halves{h.left, right}
}

// tagLeft xors the first bytes with a tag of the rest.
func (h halves) tagLeft(key [32]byte) halves {
	tag := mac.Tag(key[:], h.right)
	left, _ := codec.Xor(h.left, tag[:])
	return halves{left, h.right}
}
