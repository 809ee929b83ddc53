package field

import (
	"math/big"
	"slices"
	"testing"
)

// exponents are of no byte, of zeros, of bytes with one bit, of zeros at either end, around p, and longer than an element.
func exponents() [][]byte {
	p := littleEndian(prime())
	before, twice := slices.Clone(p[:]), slices.Clone(p[:])
	before[0]--
	twice[0] -= 2
	out := [][]byte{
		nil, {}, {0}, {0, 0, 0}, {1}, {2}, {3}, {16}, {128}, {255}, {0, 1}, {1, 0}, {5, 0, 0, 0}, {0, 0, 128}, {0, 255, 0},
		{1, 2, 3, 4, 5, 6, 7, 8, 9}, p[:], before, twice, slices.Repeat([]byte{255}, 32), slices.Repeat([]byte{0xa5}, 45),
		append(make([]byte, 99), 1), append(slices.Repeat([]byte{7}, 40), 0, 0),
	}
	for bit := range 16 {
		one := make([]byte, 2)
		one[bit/8] = 1 << (bit % 8)
		out = append(out, one)
	}
	return out
}

// TestPower is of P5.3: against the library's numbers, where 0 to the power 0 is 1 as well.
func TestPower(t *testing.T) {
	for _, a := range append(all(), Elem{}, limbs(prime())) {
		for _, e := range exponents() {
			back := slices.Clone(e)
			slices.Reverse(back)
			want := normal(new(big.Int).Exp(number(a), new(big.Int).SetBytes(back), prime()))
			if got := Power(a, e); got != want {
				t.Errorf("Power(%x, %x) = %x, not %x", a, e, got, want)
			}
		}
	}
}

// TestPowerExamples is of P5.3: those of the document, and what it says of the exponent 0.
func TestPowerExamples(t *testing.T) {
	for _, c := range []struct {
		a    Elem
		e    []byte
		want uint64
	}{
		{Of(2), []byte{255}, 19}, {Of(0), nil, 1}, {Of(0), []byte{}, 1}, {Of(0), []byte{0}, 1}, {Of(0), []byte{0, 1}, 0},
		{Of(0), []byte{1}, 0}, {Of(0), make([]byte, 50), 1}, {limbs(prime()), nil, 1}, {limbs(prime()), []byte{0}, 1},
		{limbs(prime()), []byte{2}, 0}, {Of(3), nil, 1}, {Of(3), []byte{0, 0}, 1}, {Of(3), []byte{4}, 81}, {Of(3), []byte{4, 0, 0}, 81},
	} {
		if got := Power(c.a, c.e); got != Of(c.want) {
			t.Errorf("Power(%x, %v) = %x", c.a, c.e, got)
		}
	}
	if got := Power(Of(2), []byte{0, 1}); got != Of(38) {
		t.Errorf("2 to the power 256 = %x", got)
	}
}

// TestInv is of P5.3: against the library's numbers; 0 for 0, whichever its limbs are.
func TestInv(t *testing.T) {
	for _, a := range all() {
		want := Elem{}
		if inverse := new(big.Int).ModInverse(number(a), prime()); inverse != nil {
			want = limbs(inverse)
		}
		if got := Inv(a); got != want {
			t.Errorf("Inv(%x) = %x, not %x", a, got, want)
		}
	}
	p := prime()
	half := new(big.Int).Rsh(new(big.Int).Add(p, big.NewInt(1)), 1)
	if Inv(Of(2)) != limbs(half) || Inv(Of(1)) != Of(1) {
		t.Errorf("Inv(2) = %x, Inv(1) = %x", Inv(Of(2)), Inv(Of(1)))
	}
	if Inv(Elem{}) != (Elem{}) || Inv(limbs(p)) != (Elem{}) || Inv(limbs(new(big.Int).Lsh(p, 1))) != (Elem{}) {
		t.Errorf("Inv of 0, p, 2p: %x, %x, %x", Inv(Elem{}), Inv(limbs(p)), Inv(limbs(new(big.Int).Lsh(p, 1))))
	}
}
