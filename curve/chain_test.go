package curve

import (
	"encoding/hex"
	"slices"
	"testing"

	"shallot/api"
)

// TestPublic is of P6.2: the product with 9, for any scalar.
func TestPublic(t *testing.T) {
	for _, c := range [][2]string{
		{"77076d0a7318a57d3c16c17251b26645df4c2f87ebc0992ab177fba51db92c2a", "8520f0098930a754748b7ddcb43ef75a0dbf3a0d26381af4eba4a98eaa9b4e6a"},
		{"5dab087e624a8a4b79e17f8b83800ee66f3bb1292618b6fd1c2f8b27ff88e0eb", "de9edb7d7b7dc1b4d35b61c2ece435373f8343c85b78674dadfc7e146f882b4f"},
	} {
		if got, e := Public(unhex(t, c[0])); e != api.OK || hex.EncodeToString(got[:]) != c[1] {
			t.Errorf("Public(%s) = %x, %v", c[0], got, e)
		}
	}
	for _, k := range [][]byte{make([]byte, 32), small(1), slices.Repeat([]byte{255}, 32), mixed(1), mixed(2), mixed(3)} {
		want, _ := library(t, k, small(9))
		mult, _ := Mult(k, small(9))
		if got, e := Public(k); e != api.OK || got != want || got != mult {
			t.Errorf("Public(%x) = %x, %v", k, got, e)
		}
	}
	for _, k := range wrongs() {
		if got, e := Public(k); e != api.ErrSize || got != [32]byte{} {
			t.Errorf("Public of %d bytes = %x, %v", len(k), got, e)
		}
	}
}

// TestChain is of P6.2: Mult by each scalar in order, for any number of them.
func TestChain(t *testing.T) {
	u := mixed(50)
	want := [32]byte(u)
	var ks [][]byte
	for i := range 8 {
		ks = append(ks, mixed(60+i))
		var e api.Errno
		want, e = Mult(ks[i], want[:])
		if e != api.OK {
			t.Fatal(e)
		}
		if got, e := Chain(u, ks...); e != api.OK || got != want {
			t.Errorf("Chain with %d scalars = %x, %v", len(ks), got, e)
		}
	}
	k := mixed(7)
	public, _ := Public(k)
	if got, e := Chain(small(9), k); e != api.OK || got != public {
		t.Errorf("Chain(9, k) = %x, %v", got, e)
	}
}

// TestChainNone is of P6.2: without scalars, the bytes of the point as it is read, also of a low one.
func TestChainNone(t *testing.T) {
	for _, c := range []struct{ u, want []byte }{
		{small(9), small(9)}, {small(0), small(0)}, {small(1), small(1)}, {nearPrime(-1), nearPrime(-1)}, {nearPrime(-2), nearPrime(-2)},
		{nearPrime(0), small(0)}, {nearPrime(1), small(1)}, {nearPrime(18), small(18)}, {slices.Repeat([]byte{255}, 32), small(18)},
		{raised(small(9)), small(9)}, {raised(small(0)), small(0)}, {raised(nearPrime(-1)), nearPrime(-1)},
	} {
		for _, none := range [][][]byte{nil, {}} {
			if got, e := Chain(c.u, none...); e != api.OK || !slices.Equal(got[:], c.want) {
				t.Errorf("Chain(%x) = %x, %v", c.u, got, e)
			}
		}
	}
}

// TestChainRefuses is of P6.2: ErrSize wherever the wrong length stands, also where ErrZero would apply; ErrZero.
func TestChainRefuses(t *testing.T) {
	k := mixed(1)
	for _, w := range wrongs() {
		for _, u := range [][]byte{small(9), mixed(2), small(0)} {
			for _, ks := range [][][]byte{{w}, {w, k}, {k, w}, {k, k, w}, {k, w, k}, {w, w}} {
				if got, e := Chain(u, ks...); e != api.ErrSize || got != [32]byte{} {
					t.Errorf("Chain(%x) with a scalar of %d bytes = %x, %v", u, len(w), got, e)
				}
			}
		}
		for _, ks := range [][][]byte{nil, {k}, {k, k}, {w}} {
			if got, e := Chain(w, ks...); e != api.ErrSize || got != [32]byte{} {
				t.Errorf("Chain of a point of %d bytes = %x, %v", len(w), got, e)
			}
		}
	}
	for _, u := range lows(t) {
		for _, ks := range [][][]byte{{k}, {k, mixed(2)}, {small(0), k, k}} {
			if got, e := Chain(u, ks...); e != api.ErrZero || got != [32]byte{} {
				t.Errorf("Chain(%x) = %x, %v", u, got, e)
			}
		}
	}
}

// TestLow is of P6.2: what Mult says of any scalar.
func TestLow(t *testing.T) {
	for _, u := range lows(t) {
		if low, e := Low(u); e != api.OK || !low {
			t.Errorf("Low(%x): %v, %v", u, low, e)
		}
	}
	points := [][]byte{small(9), raised(small(9)), nearPrime(-2), nearPrime(2), nearPrime(18)}
	for i := range 60 {
		points = append(points, mixed(i), small(byte(2+i)), nearPrime(-2-i))
	}
	for _, u := range lows(t)[5:7] {
		for bit := range 255 {
			other := slices.Clone(u)
			other[bit/8] ^= 1 << (bit % 8)
			points = append(points, other)
		}
	}
	for _, u := range points {
		if low, e := Low(u); e != api.OK || low {
			t.Errorf("Low(%x): %v, %v", u, low, e)
		}
	}
	for _, u := range wrongs() {
		if low, e := Low(u); e != api.ErrSize || low {
			t.Errorf("Low of %d bytes: %v, %v", len(u), low, e)
		}
	}
}

// TestOrder is of P6.3: two scalars in either order, and five in any, for points that are not low.
func TestOrder(t *testing.T) {
	for i := range 20 {
		a, b := mixed(2*i), mixed(2*i+1)
		for _, u := range [][]byte{small(9), mixed(500 + i), small(byte(2 + i)), raised(mixed(600 + i))} {
			one, e1 := Chain(u, a, b)
			two, e2 := Chain(u, b, a)
			inner, _ := Mult(b, u)
			three, e3 := Mult(a, inner[:])
			if e1 != api.OK || e2 != api.OK || e3 != api.OK || one != two || one != three {
				t.Errorf("%x times %x and %x: %x, %x, %x", u, a, b, one, two, three)
			}
		}
	}
	ks := [][]byte{mixed(1), mixed(2), mixed(3), mixed(4), mixed(5)}
	want, _ := Chain(mixed(9), ks...)
	for i := range ks {
		ks[0], ks[i] = ks[i], ks[0]
		if got, e := Chain(mixed(9), ks...); e != api.OK || got != want {
			t.Errorf("Chain in another order = %x, %v", got, e)
		}
	}
}
