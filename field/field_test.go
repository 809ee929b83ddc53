package field

import (
	"crypto/sha256"
	"encoding/binary"
	"math/big"
	"slices"
	"testing"

	"shallot/api"
)

// prime returns 2^255 - 19, by the library's numbers.
func prime() *big.Int {
	p := new(big.Int).Lsh(big.NewInt(1), 255)
	return p.Sub(p, big.NewInt(19))
}

// number returns the integer that the limbs of a represent, not reduced.
func number(a Elem) *big.Int {
	n := new(big.Int)
	for i := 3; i >= 0; i-- {
		n.Lsh(n, 64)
		n.Or(n, new(big.Int).SetUint64(a[i]))
	}
	return n
}

// limbs returns the lowest 256 bits of n.
func limbs(n *big.Int) Elem {
	var a Elem
	rest := new(big.Int).Set(n)
	for i := range a {
		a[i] = new(big.Int).And(rest, new(big.Int).SetUint64(1<<64-1)).Uint64()
		rest.Rsh(rest, 64)
	}
	return a
}

// normal returns the normal element of any integer.
func normal(n *big.Int) Elem { return limbs(new(big.Int).Mod(n, prime())) }

// mixed returns elements without a pattern, the same ones each time; about half of them are not normal.
func mixed(count int) []Elem {
	out := make([]Elem, count)
	for i := range out {
		sum := sha256.Sum256(binary.BigEndian.AppendUint64([]byte("field"), uint64(i)))
		for j := range out[i] {
			out[i][j] = binary.BigEndian.Uint64(sum[8*j:])
		}
	}
	return out
}

// edges returns elements around all numbers at which a carry or a reduction begins or ends.
func edges() []Elem {
	const ones = 1<<64 - 1
	out := []Elem{
		{0, ones}, {ones, 0, ones}, {0, 0, ones}, {0, 0, 0, ones}, {ones, ones, ones}, {0, ones, ones, ones},
		{0, ones, ones, 1<<63 - 1}, {ones, 0, ones, 1<<63 - 1}, {ones, ones, 0, 1<<63 - 1}, {ones, ones, ones, 1<<63 - 2},
		{ones - 17, 0, 0, 1<<63 - 1}, {ones - 18, ones, 0, 1<<63 - 1}, {ones - 18, 0, ones, 1<<63 - 1},
	}
	near := []*big.Int{new(big.Int), prime(), new(big.Int).Lsh(prime(), 1)}
	for _, bit := range []uint{63, 64, 65, 128, 192, 254, 255, 256} {
		near = append(near, new(big.Int).Lsh(big.NewInt(1), bit))
	}
	for _, n := range near {
		for _, more := range []int64{-39, -38, -37, -20, -19, -18, -2, -1, 0, 1, 2, 18, 19, 20, 37, 38} {
			m := new(big.Int).Add(n, big.NewInt(more))
			if m.Sign() >= 0 && m.BitLen() <= 256 {
				out = append(out, limbs(m))
			}
		}
	}
	return out
}

// all returns edges and mixed ones.
func all() []Elem { return append(edges(), mixed(100)...) }

// TestNorm is of P5.1: the number modulo p, for normal elements and for others.
func TestNorm(t *testing.T) {
	for _, a := range all() {
		if got, want := Norm(a), normal(number(a)); got != want {
			t.Errorf("Norm(%x) = %x, not %x", a, got, want)
		}
		if got := Norm(Norm(a)); got != Norm(a) {
			t.Errorf("Norm of the normal %x = %x", Norm(a), got)
		}
	}
	p, ones := limbs(prime()), Elem{1<<64 - 1, 1<<64 - 1, 1<<64 - 1, 1<<64 - 1}
	if Norm(p) != (Elem{}) || Norm(ones) != (Elem{37}) {
		t.Errorf("Norm of p = %x, of all ones %x", Norm(p), Norm(ones))
	}
	if p != (Elem{18446744073709551597, 18446744073709551615, 18446744073709551615, 9223372036854775807}) {
		t.Errorf("the limbs of p are %d", p)
	}
}

// TestOf is of P5.1.
func TestOf(t *testing.T) {
	for _, n := range []uint64{0, 1, 2, 19, 255, 256, 1<<63 - 1, 1 << 63, 1<<64 - 19, 1<<64 - 1} {
		if got := Of(n); got != (Elem{n, 0, 0, 0}) {
			t.Errorf("Of(%d) = %x", n, got)
		}
	}
}

// TestIs is of P5.1: elements of the same number, in whatever limbs, and elements of other numbers.
func TestIs(t *testing.T) {
	list := all()
	for _, a := range list {
		for _, b := range list {
			if got, want := Is(a, b), normal(number(a)) == normal(number(b)); got != want {
				t.Errorf("Is(%x, %x): %v", a, b, got)
			}
		}
	}
	next := limbs(new(big.Int).Add(prime(), big.NewInt(1)))
	if !Is(next, Of(1)) || !Is(Of(1), next) || Is(next, Of(0)) || !Is(limbs(prime()), Elem{}) {
		t.Errorf("Is of p + 1")
	}
	for limb := range 4 {
		for bit := range 64 {
			a := mixed(1)[0]
			b := a
			b[limb] ^= 1 << bit
			if Is(a, b) {
				t.Errorf("Is of an element with the bit %d of the limb %d changed", bit, limb)
			}
		}
	}
}

// TestOdd is of P5.1: of the normal element, not of its limbs.
func TestOdd(t *testing.T) {
	for _, a := range all() {
		want := normal(number(a))[0]%2 == 1
		if a.Odd() != want || (Ratio{Elem: a}).Odd() != want || (Ratio{Elem: a, Under: Of(1)}).Odd() != want || (Ratio{Elem: a, Under: Of(2)}).Odd() != want {
			t.Errorf("Odd of %x: %v, as the Elem of a Ratio %v", a, a.Odd(), Ratio{Elem: a}.Odd())
		}
	}
	if limbs(prime()).Odd() || !Of(1).Odd() || Of(2).Odd() || (Elem{}).Odd() || (Ratio{}).Odd() || (Ratio{Under: Of(1)}).Odd() {
		t.Errorf("Odd of p, 1, 2, 0")
	}
}

// littleEndian returns the 32 bytes of n.
func littleEndian(n *big.Int) [32]byte {
	var b [32]byte
	n.FillBytes(b[:])
	slices.Reverse(b[:])
	return b
}

// TestRead is of P5.1: the number without its highest bit, modulo p.
func TestRead(t *testing.T) {
	for _, a := range all() {
		b := littleEndian(number(a))
		low := new(big.Int).SetBit(number(a), 255, 0)
		if got, e := Read(b[:]); e != api.OK || got != normal(low) {
			t.Errorf("Read(%x) = %x, %v", b, got, e)
		}
		b[31] ^= 128
		if got, e := Read(b[:]); e != api.OK || got != normal(low) {
			t.Errorf("Read(%x) = %x, %v", b, got, e)
		}
	}
	b := slices.Repeat([]byte{255}, 32)
	if got, e := Read(b); e != api.OK || got != Of(18) {
		t.Errorf("Read of 32 bytes 255 = %x, %v", got, e)
	}
}

// TestReadPlaces is of P5.1: each byte has its place.
func TestReadPlaces(t *testing.T) {
	for i := range 32 {
		b := make([]byte, 32)
		b[i] = 0x5a
		want := limbs(new(big.Int).Lsh(big.NewInt(0x5a), uint(8*i)))
		if got, e := Read(b); e != api.OK || got != want {
			t.Errorf("Read of the byte %d alone = %x, %v", i, got, e)
		}
		if got := Bytes(want); !slices.Equal(got[:], b) {
			t.Errorf("Bytes of the byte %d alone = %x", i, got)
		}
	}
}

// TestReadRefuses is of P5.1.
func TestReadRefuses(t *testing.T) {
	for _, n := range []int{0, 1, 16, 31, 33, 64, 1000} {
		b := slices.Repeat([]byte{7}, n)
		if got, e := Read(b); e != api.ErrSize || got != (Elem{}) {
			t.Errorf("Read of %d bytes = %x, %v", n, got, e)
		}
	}
	if got, e := Read(nil); e != api.ErrSize || got != (Elem{}) {
		t.Errorf("Read of nil = %x, %v", got, e)
	}
}

// TestBytes is of P5.1: the bytes of the normal element, which Read returns.
func TestBytes(t *testing.T) {
	for _, a := range all() {
		got := Bytes(a)
		if want := littleEndian(number(normal(number(a)))); got != want {
			t.Errorf("Bytes(%x) = %x, not %x", a, got, want)
		}
		if back, e := Read(got[:]); e != api.OK || back != Norm(a) {
			t.Errorf("Read of Bytes(%x) = %x, %v", a, back, e)
		}
	}
	if Bytes(Of(256)) != [32]byte{0, 1} || Bytes(limbs(prime())) != [32]byte{} {
		t.Errorf("Bytes of 256 and of p: %x, %x", Bytes(Of(256)), Bytes(limbs(prime())))
	}
}
