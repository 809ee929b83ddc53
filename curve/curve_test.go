package curve

import (
	"crypto/ecdh"
	"crypto/sha256"
	"encoding/binary"
	"encoding/hex"
	"slices"
	"testing"

	"shallot/api"
)

// mixed returns the i-th 32 bytes without a pattern, the same ones each time.
func mixed(i int) []byte {
	sum := sha256.Sum256(binary.BigEndian.AppendUint64([]byte("curve"), uint64(i)))
	return sum[:]
}

func unhex(t *testing.T, s string) []byte {
	t.Helper()
	b, err := hex.DecodeString(s)
	if err != nil {
		t.Fatal(err)
	}
	return b
}

// small returns 32 bytes that begin with n.
func small(n byte) []byte {
	b := make([]byte, 32)
	b[0] = n
	return b
}

// nearPrime returns the bytes of 2^255 - 19 + n, for n from -237 to 18.
func nearPrime(n int) []byte {
	b := slices.Repeat([]byte{255}, 32)
	b[0], b[31] = byte(237+n), 127
	return b
}

// raised returns a copy with the highest bit changed.
func raised(u []byte) []byte {
	out := slices.Clone(u)
	out[31] ^= 128
	return out
}

// lows returns all points whose product with any scalar is 0: those of the orders 1, 2, 4 and 8, also as numbers that are not less than 2^255 - 19, and with the highest bit set.
func lows(t *testing.T) [][]byte {
	t.Helper()
	out := [][]byte{
		small(0), small(1), nearPrime(-1), nearPrime(0), nearPrime(1),
		unhex(t, "e0eb7a7c3b41b8ae1656e3faf19fc46ada098deb9c32b1fd866205165f49b800"),
		unhex(t, "5f9c95bca3508c24b1d0b1559c83ef5b04445cc4581c8e86d8224eddd09f1157"),
	}
	for _, u := range slices.Clone(out) {
		out = append(out, raised(u))
	}
	return out
}

// library returns the library's product, and whether it is one other than 0.
func library(t *testing.T, k, u []byte) ([32]byte, bool) {
	t.Helper()
	private, err := ecdh.X25519().NewPrivateKey(k)
	if err != nil {
		t.Fatal(err)
	}
	public, err := ecdh.X25519().NewPublicKey(u)
	if err != nil {
		t.Fatal(err)
	}
	out, err := private.ECDH(public)
	if err != nil {
		return [32]byte{}, false
	}
	return [32]byte(out), true
}

// wrongs are lists that are not as long as a scalar or a point.
func wrongs() [][]byte {
	return [][]byte{nil, {}, {9}, make([]byte, 16), make([]byte, 31), make([]byte, 33), slices.Repeat([]byte{9}, 31), slices.Repeat([]byte{9}, 33), make([]byte, 64)}
}

// TestClamp is of P6.1: five bits are fixed, the others stay.
func TestClamp(t *testing.T) {
	scalars := [][]byte{make([]byte, 32), slices.Repeat([]byte{255}, 32), small(7), small(8)}
	for i := range 50 {
		scalars = append(scalars, mixed(i))
	}
	for _, k := range scalars {
		want := [32]byte(k)
		want[0] = want[0] / 8 * 8
		want[31] = want[31]%64 + 64
		if got, e := Clamp(k); e != api.OK || got != want {
			t.Errorf("Clamp(%x) = %x, %v", k, got, e)
		}
	}
	for bit := range 256 {
		k := make([]byte, 32)
		k[bit/8] = 1 << (bit % 8)
		want := [32]byte{31: 64}
		if bit > 2 && bit < 254 {
			want[bit/8] |= 1 << (bit % 8)
		}
		if got, e := Clamp(k); e != api.OK || got != want {
			t.Errorf("Clamp of the bit %d alone = %x, %v", bit, got, e)
		}
	}
	for _, k := range wrongs() {
		if got, e := Clamp(k); e != api.ErrSize || got != [32]byte{} {
			t.Errorf("Clamp of %d bytes = %x, %v", len(k), got, e)
		}
	}
}

// TestMultExamples is of P6.1: the examples of the document and of the standard.
func TestMultExamples(t *testing.T) {
	for _, c := range []struct{ k, u, want string }{
		{"a546e36bf0527c9d3b16154b82465edd62144c0ac1fc5a18506a2244ba449ac4", "e6db6867583030db3594c1a424b15f7c726624ec26b3353b10a903a6d0ab1c4c", "c3da55379de9c6908e94ea4df28d084f32eccf03491c71f754b4075577a28552"},
		{"4b66e9d4d1b4673c5ad22691957d6af5c11b6421e0ea01d42ca4169e7918ba0d", "e5210f12786811d3f4b7959d0538ae2c31dbe7106fc03c3efc4cd549c715a493", "95cbde9476e8907d7aade45cb4b873f88b595a68799fa152e6f8f7647aac7957"},
		{"5dab087e624a8a4b79e17f8b83800ee66f3bb1292618b6fd1c2f8b27ff88e0eb", "8520f0098930a754748b7ddcb43ef75a0dbf3a0d26381af4eba4a98eaa9b4e6a", "4a5d9d5ba4ce2de1728e3bf480350f25e07e21c947d19e3376f09b3c1e161742"},
	} {
		if got, e := Mult(unhex(t, c.k), unhex(t, c.u)); e != api.OK || hex.EncodeToString(got[:]) != c.want {
			t.Errorf("Mult(%s, %s) = %x, %v", c.k, c.u, got, e)
		}
	}
}

// TestMultAgain is of P6.1: the standard's series, in which each product is the next scalar.
func TestMultAgain(t *testing.T) {
	k, u := [32]byte(small(9)), [32]byte(small(9))
	for i := range 1000 {
		out, e := Mult(k[:], u[:])
		if e != api.OK {
			t.Fatalf("the product %d: %v", i, e)
		}
		k, u = out, k
		if i == 0 && hex.EncodeToString(k[:]) != "422c8e7a6227d7bca1350b3e2bb7279f7897b87bb6854b783c60e80311ae3079" {
			t.Errorf("behind one product %x", k)
		}
	}
	if hex.EncodeToString(k[:]) != "684cf59ba83309552800ef566f2f4d3c1c3887c49360e3875f2eb94d99532c51" {
		t.Errorf("behind 1000 products %x", k)
	}
}

// TestMultLibrary is of P6.1: against the library, for points on the curve and on its twist, small ones, and ones that are not less than 2^255 - 19.
func TestMultLibrary(t *testing.T) {
	points := lows(t)
	for i := range 40 {
		points = append(points, mixed(i), small(byte(i)), nearPrime(18-i), raised(nearPrime(18-i)))
	}
	scalars := [][]byte{make([]byte, 32), small(1), slices.Repeat([]byte{255}, 32), mixed(1000), mixed(1001)}
	for _, u := range points {
		for _, k := range scalars {
			want, is := library(t, k, u)
			got, e := Mult(k, u)
			if got != want || is != (e == api.OK) || !is != (e == api.ErrZero) {
				t.Errorf("Mult(%x, %x) = %x, %v, not %x", k, u, got, e, want)
			}
		}
	}
	for i := range 100 {
		k, u := mixed(2000+i), mixed(3000+i)
		want, _ := library(t, k, u)
		if got, e := Mult(k, u); e != api.OK || got != want {
			t.Errorf("Mult(%x, %x) = %x, %v, not %x", k, u, got, e, want)
		}
	}
}

// TestMultRefuses is of P6.1: ErrSize also where ErrZero would apply, and ErrZero with nothing beside it.
func TestMultRefuses(t *testing.T) {
	for _, w := range wrongs() {
		for _, good := range [][]byte{mixed(1), small(9), small(0)} {
			if got, e := Mult(w, good); e != api.ErrSize || got != [32]byte{} {
				t.Errorf("Mult of a scalar of %d bytes = %x, %v", len(w), got, e)
			}
			if got, e := Mult(good, w); e != api.ErrSize || got != [32]byte{} {
				t.Errorf("Mult of a point of %d bytes = %x, %v", len(w), got, e)
			}
		}
		if got, e := Mult(w, w); e != api.ErrSize || got != [32]byte{} {
			t.Errorf("Mult of %d and %d bytes = %x, %v", len(w), len(w), got, e)
		}
	}
	for _, u := range lows(t) {
		for i := range 4 {
			if got, e := Mult(mixed(i), u); e != api.ErrZero || got != [32]byte{} {
				t.Errorf("Mult(%x, %x) = %x, %v", mixed(i), u, got, e)
			}
		}
	}
}

// TestMultBits is of P6.4: the fixed bits of a scalar and the highest one of a point do not matter; all others do.
func TestMultBits(t *testing.T) {
	for _, i := range []int{5, 6} {
		k, u := mixed(i), mixed(100+i)
		want, e := Mult(k, u)
		if e != api.OK {
			t.Fatal(e)
		}
		for bit := range 256 {
			other := slices.Clone(k)
			other[bit/8] ^= 1 << (bit % 8)
			got, e := Mult(other, u)
			if fixed := bit < 3 || bit > 253; e != api.OK || (got == want) != fixed {
				t.Errorf("Mult with the bit %d of the scalar changed = %x, %v", bit, got, e)
			}
			other = slices.Clone(u)
			other[bit/8] ^= 1 << (bit % 8)
			got, e = Mult(k, other)
			if e != api.OK || (got == want) != (bit == 255) {
				t.Errorf("Mult with the bit %d of the point changed = %x, %v", bit, got, e)
			}
		}
		clamped, _ := Clamp(k)
		if got, e := Mult(clamped[:], u); e != api.OK || got != want {
			t.Errorf("Mult of the clamped scalar = %x, %v", got, e)
		}
	}
	for n := 2; n <= 18; n++ {
		want, e1 := Mult(mixed(n), small(byte(n)))
		got, e2 := Mult(mixed(n), nearPrime(n))
		if e1 != api.OK || e2 != api.OK || got != want {
			t.Errorf("Mult of p + %d = %x, %v", n, got, e2)
		}
	}
}
