package sha

import (
	"crypto/sha256"
	"encoding/binary"
	"encoding/hex"
	"math"
	"math/big"
	"slices"
	"testing"

	"shallot/api"
)

// some returns n bytes of a pattern that does not repeat with the blocks.
func some(n int) []byte {
	b := make([]byte, n)
	for i := range b {
		b[i] = byte(i*i + i/251 + 7)
	}
	return b
}

// TestSumKnown is of P2.1: sums that are published.
func TestSumKnown(t *testing.T) {
	for in, want := range map[string]string{
		"":    "e3b0c44298fc1c149afbf4c8996fb92427ae41e4649b934ca495991b7852b855",
		"abc": "ba7816bf8f01cfea414140de5dae2223b00361a396177a9cb410ff61f20015ad",
		"abcdbcdecdefdefgefghfghighijhijkijkljklmklmnlmnomnopnopq":                                                         "248d6a61d20638b8e5c026930c3e6039a33ce45964ff2167f6ecedd419db06c1",
		"abcdefghbcdefghicdefghijdefghijkefghijklfghijklmghijklmnhijklmnoijklmnopjklmnopqklmnopqrlmnopqrsmnopqrstnopqrstu": "cf5b16a778af8380036ce59e7b0492370b249b11e8f07a51afac45037afee9d1",
	} {
		if got := Sum([]byte(in)); hex.EncodeToString(got[:]) != want {
			t.Errorf("Sum(%q) = %x", in, got)
		}
	}
}

// TestSumLengths is of P2.1: each length around the ends of the first blocks, against the library.
func TestSumLengths(t *testing.T) {
	for n := range 4*blockSize + 2 {
		b := some(n)
		if got := Sum(b); got != sha256.Sum256(b) {
			t.Errorf("Sum of %d bytes = %x", n, got)
		}
	}
}

// TestSumParts is of P2.1: how the bytes are divided does not matter.
func TestSumParts(t *testing.T) {
	empty := sha256.Sum256(nil)
	if Sum() != empty || Sum(nil) != empty || Sum(nil, []byte{}, nil) != empty {
		t.Errorf("Sum of nothing")
	}
	if Sum([]byte("a"), nil, []byte("bc")) != Sum([]byte("abc")) {
		t.Errorf("Sum of a, nothing, bc")
	}
	b := some(3*blockSize + 5)
	want := sha256.Sum256(b)
	for _, size := range []int{1, 2, 7, 63, 64, 65, 128, 129} {
		if got := Sum(slices.Collect(slices.Chunk(b, size))...); got != want {
			t.Errorf("Sum in parts of %d = %x", size, got)
		}
	}
	for i := range len(b) + 1 {
		if got := Sum(b[:i], nil, b[i:]); got != want {
			t.Errorf("Sum divided at %d = %x", i, got)
		}
	}
}

// TestSumLong is of P2.1: MaxHash is no limit of Sum.
func TestSumLong(t *testing.T) {
	b := some(api.MaxHash + 1)
	want := sha256.Sum256(b)
	if got := Sum(b); got != want {
		t.Errorf("Sum of MaxHash + 1 bytes = %x", got)
	}
	h := New(b[:api.MaxHash]).Write(b[api.MaxHash:])
	if got := h.Sum(); got != want || h.Len() != api.MaxHash+1 {
		t.Errorf("the hash of %d bytes = %x", h.Len(), got)
	}
}

// TestPad is of P2.2: the form of the padding, for lengths of all kinds.
func TestPad(t *testing.T) {
	lengths := []int{api.MaxHash, api.MaxHash - 1, api.MaxHash - 8, api.MaxHash - 9, 1 << 20, 1<<16 + 55}
	for n := range 2*blockSize + 2 {
		lengths = append(lengths, n)
	}
	for _, n := range lengths {
		p, e := Pad(n)
		if e != api.OK || (n+len(p))%64 != 0 || len(p) < 9 || len(p) > 72 {
			t.Errorf("Pad(%d) = %v, %v", n, p, e)
			continue
		}
		zeros := len(p) - 9
		count := binary.BigEndian.AppendUint64(nil, 8*uint64(n))
		if p[0] != 128 || !slices.Equal(p[1:1+zeros], make([]byte, zeros)) || !slices.Equal(p[1+zeros:], count) {
			t.Errorf("Pad(%d) = %v", n, p)
		}
	}
}

// TestPadExamples is of P2.2.
func TestPadExamples(t *testing.T) {
	if p, e := Pad(0); e != api.OK || !slices.Equal(p, append([]byte{128}, make([]byte, 63)...)) {
		t.Errorf("Pad(0) = %v, %v", p, e)
	}
	if p, e := Pad(55); e != api.OK || !slices.Equal(p, []byte{128, 0, 0, 0, 0, 0, 0, 1, 184}) {
		t.Errorf("Pad(55) = %v, %v", p, e)
	}
	for n, size := range map[int]int{1: 63, 54: 10, 56: 72, 63: 65, 64: 64, 119: 9, 120: 72} {
		if p, e := Pad(n); e != api.OK || len(p) != size {
			t.Errorf("Pad(%d) = %v, %v", n, p, e)
		}
	}
	for _, n := range []int{-1, -64, math.MinInt, api.MaxHash + 1, math.MaxInt} {
		if p, e := Pad(n); e != api.ErrArg || len(p) != 0 {
			t.Errorf("Pad(%d) = %v, %v", n, p, e)
		}
	}
}

// rootBits returns the first 32 bits behind the point of the root of n, that of the given degree.
func rootBits(n int64, degree int64) uint32 {
	scaled := new(big.Int).Lsh(big.NewInt(n), uint(32*degree))
	low, high := new(big.Int), new(big.Int).Lsh(big.NewInt(n), 32)
	for low.Cmp(high) < 0 { // the greatest root whose power is not above
		mid := new(big.Int).Add(low, high)
		mid.Add(mid, big.NewInt(1)).Rsh(mid, 1)
		if new(big.Int).Exp(mid, big.NewInt(degree), nil).Cmp(scaled) <= 0 {
			low = mid
		} else {
			high = mid.Sub(mid, big.NewInt(1))
		}
	}
	return uint32(low.Uint64())
}

// TestConstants is of P2.2: Start and Constants, from the primes.
func TestConstants(t *testing.T) {
	var primes []int64
	for n := int64(2); len(primes) < 64; n++ {
		if big.NewInt(n).ProbablyPrime(0) {
			primes = append(primes, n)
		}
	}
	for i, word := range Start() {
		if word != rootBits(primes[i], 2) {
			t.Errorf("Start()[%d] = %08x", i, word)
		}
	}
	for i, word := range Constants() {
		if word != rootBits(primes[i], 3) {
			t.Errorf("Constants()[%d] = %08x", i, word)
		}
	}
	if Start()[0] != 0x6a09e667 || Start()[7] != 0x5be0cd19 || Constants()[0] != 0x428a2f98 || Constants()[63] != 0xc67178f2 {
		t.Errorf("the constants that the document names")
	}
}

// chained returns the sum that Pad and Compress come to.
func chained(t *testing.T, b []byte) [32]byte {
	t.Helper()
	padding, _ := Pad(len(b))
	state := Start()
	for block := range slices.Chunk(append(slices.Clone(b), padding...), 64) {
		var e api.Errno
		if state, e = Compress(state, block); e != api.OK {
			t.Errorf("Compress: %v", e)
		}
	}
	var out [32]byte
	for i, w := range state {
		copy(out[4*i:], []byte{byte(w >> 24), byte(w >> 16), byte(w >> 8), byte(w)})
	}
	return out
}

// TestCompress is of P2.2: from block to block, it comes to the sum; the words of a later block's state are of all kinds.
func TestCompress(t *testing.T) {
	for _, n := range []int{0, 3, 55, 56, 64, 200, 1000} {
		b := some(n)
		if got := chained(t, b); got != sha256.Sum256(b) {
			t.Errorf("the blocks of %d bytes come to %x", n, got)
		}
	}
	zero, e := Compress([8]uint32{}, make([]byte, 64))
	again, _ := Compress([8]uint32{}, make([]byte, 64))
	if e != api.OK || zero != again || zero == Start() {
		t.Errorf("Compress of zeros = %x, then %x: %v", zero, again, e)
	}
}

// TestCompressRefuses is of P2.2.
func TestCompressRefuses(t *testing.T) {
	for _, n := range []int{0, 1, 63, 65, 128} {
		if s, e := Compress(Start(), make([]byte, n)); e != api.ErrSize || s != [8]uint32{} {
			t.Errorf("Compress of %d bytes = %x, %v", n, s, e)
		}
	}
	if s, e := Compress(Start(), nil); e != api.ErrSize || s != [8]uint32{} {
		t.Errorf("Compress of nil = %x, %v", s, e)
	}
}
