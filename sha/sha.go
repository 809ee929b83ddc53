// Package sha is layer 2: SHA-256, as a function, in steps, and its components. Its promises: shared/doc/02-sha.md.
package sha

import (
	"math/bits"

	"shallot/api"
	"shallot/codec"
)

// Sizes, in bytes.
const (
	blockSize = 64
	wordSize  = 4
	countSize = 8 // the length at the padding's end
)

// Sum returns the hash of the parts one behind the other.
func Sum(parts ...[]byte) [32]byte { return New(parts...).Sum() }

// Pad returns the padding of n bytes.
func Pad(n int) ([]byte, api.Errno) {
	if n < 0 || n > api.MaxHash {
		return nil, api.ErrArg
	}
	return padding(n), api.OK
}

// padding is Pad without its limit, which a hash does not have.
func padding(n int) []byte {
	over := (n + 1 + countSize) % blockSize
	zeros := (blockSize - over) % blockSize
	count, _ := codec.Put(codec.Big, countSize, 8*uint64(n))
	return codec.Join([]byte{128}, make([]byte, zeros), count)
}

// Start returns the state ahead of the first block: from the square roots of the first eight primes.
func Start() [8]uint32 {
	return [8]uint32{
		0x6a09e667, 0xbb67ae85, 0x3c6ef372, 0xa54ff53a, 0x510e527f, 0x9b05688c, 0x1f83d9ab, 0x5be0cd19,
	}
}

// Constants returns one for each round: from the cube roots of the first 64 primes. They are written out, since each block needs them and the roots take long.
func Constants() [64]uint32 {
	return [64]uint32{
		0x428a2f98, 0x71374491, 0xb5c0fbcf, 0xe9b5dba5, 0x3956c25b, 0x59f111f1, 0x923f82a4, 0xab1c5ed5,
		0xd807aa98, 0x12835b01, 0x243185be, 0x550c7dc3, 0x72be5d74, 0x80deb1fe, 0x9bdc06a7, 0xc19bf174,
		0xe49b69c1, 0xefbe4786, 0x0fc19dc6, 0x240ca1cc, 0x2de92c6f, 0x4a7484aa, 0x5cb0a9dc, 0x76f988da,
		0x983e5152, 0xa831c66d, 0xb00327c8, 0xbf597fc7, 0xc6e00bf3, 0xd5a79147, 0x06ca6351, 0x14292967,
		0x27b70a85, 0x2e1b2138, 0x4d2c6dfc, 0x53380d13, 0x650a7354, 0x766a0abb, 0x81c2c92e, 0x92722c85,
		0xa2bfe8a1, 0xa81a664b, 0xc24b8b70, 0xc76c51a3, 0xd192e819, 0xd6990624, 0xf40e3585, 0x106aa070,
		0x19a4c116, 0x1e376c08, 0x2748774c, 0x34b0bcb5, 0x391c0cb3, 0x4ed8aa4a, 0x5b9cca4f, 0x682e6ff3,
		0x748f82ee, 0x78a5636f, 0x84c87814, 0x8cc70208, 0x90befffa, 0xa4506ceb, 0xbef9a3f7, 0xc67178f2,
	}
}

// Compress returns the state behind the block.
func Compress(state [8]uint32, block []byte) ([8]uint32, api.Errno) {
	if len(block) != blockSize {
		return [8]uint32{}, api.ErrSize
	}
	return compress(state, block), api.OK
}

// compress is Compress for a block that has its 64 bytes.
func compress(state [8]uint32, block []byte) [8]uint32 {
	w := schedule(block)
	k := Constants()
	s := state
	for t := range w {
		s = round(s, k[t]+w[t])
	}
	for i := range s {
		s[i] += state[i]
	}
	return s
}

// schedule returns the words of all rounds: those of the block, and what follows from them.
func schedule(block []byte) [64]uint32 {
	var w [64]uint32
	for t := range 16 {
		n, _ := codec.Get(codec.Big, block, wordSize*t, wordSize)
		w[t] = uint32(n)
	}
	for t := 16; t < len(w); t++ {
		s0 := right(w[t-15], 7) ^ right(w[t-15], 18) ^ w[t-15]>>3
		s1 := right(w[t-2], 17) ^ right(w[t-2], 19) ^ w[t-2]>>10
		w[t] = s1 + w[t-7] + s0 + w[t-16]
	}
	return w
}

// round takes the words a .. h through one round; kw is the sum of its constant and its word.
func round(s [8]uint32, kw uint32) [8]uint32 {
	a, b, c, d, e, f, g, h := s[0], s[1], s[2], s[3], s[4], s[5], s[6], s[7]
	t1 := h + (right(e, 6) ^ right(e, 11) ^ right(e, 25)) + (e&f ^ ^e&g) + kw
	t2 := (right(a, 2) ^ right(a, 13) ^ right(a, 22)) + (a&b ^ a&c ^ b&c)
	return [8]uint32{t1 + t2, a, b, c, d + t1, e, f, g}
}

func right(x uint32, n int) uint32 { return bits.RotateLeft32(x, -n) }
