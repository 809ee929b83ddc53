package field

import (
	"math/big"
	"slices"
	"testing"
)

// bigSum returns the sum of all numbers, by the library.
func bigSum(list []Elem) Elem {
	n := new(big.Int)
	for _, a := range list {
		n.Add(n, number(a))
	}
	return normal(n)
}

// bigProduct returns the product of all numbers, by the library.
func bigProduct(list []Elem) Elem {
	n := big.NewInt(1)
	for _, a := range list {
		n.Mul(n, number(a)).Mod(n, prime())
	}
	return normal(n)
}

// TestTwo is of P5.2: sums, differences and products of any two elements against the library's numbers.
func TestTwo(t *testing.T) {
	list := all()
	for _, a := range list {
		for _, b := range list {
			if got, want := Sum(a, b), bigSum([]Elem{a, b}); got != want {
				t.Errorf("Sum(%x, %x) = %x, not %x", a, b, got, want)
			}
			if got, want := Sub(a, b), normal(new(big.Int).Sub(number(a), number(b))); got != want {
				t.Errorf("Sub(%x, %x) = %x, not %x", a, b, got, want)
			}
			if got, want := Product(a, b), bigProduct([]Elem{a, b}); got != want {
				t.Errorf("Product(%x, %x) = %x, not %x", a, b, got, want)
			}
		}
	}
}

// TestOne is of P5.2: one element, of whatever limbs, comes out normal; Square is its product with itself.
func TestOne(t *testing.T) {
	for _, a := range all() {
		want := normal(number(a))
		if Sum(a) != want || Product(a) != want || Sub(a, Elem{}) != want {
			t.Errorf("Sum(%x) = %x, Product %x, Sub of it and 0 %x", a, Sum(a), Product(a), Sub(a, Elem{}))
		}
		if got, want := Square(a), bigProduct([]Elem{a, a}); got != want {
			t.Errorf("Square(%x) = %x, not %x", a, got, want)
		}
	}
}

// TestMany is of P5.2: any number of elements, none too.
func TestMany(t *testing.T) {
	list := all()
	for n := range len(list) + 1 {
		if got, want := Sum(list[:n]...), bigSum(list[:n]); got != want {
			t.Errorf("Sum of %d elements = %x, not %x", n, got, want)
		}
		part := mixed(n) // no edges, since the first that is 0 modulo p would hide the others
		if got, want := Product(part...), bigProduct(part); got != want {
			t.Errorf("Product of %d elements = %x, not %x", n, got, want)
		}
	}
	if Sum() != (Elem{}) || Product() != Of(1) || Sum([]Elem{}...) != (Elem{}) || Product([]Elem{}...) != Of(1) {
		t.Errorf("Sum() = %x, Product() = %x", Sum(), Product())
	}
	ones := slices.Repeat([]Elem{{1<<64 - 1, 1<<64 - 1, 1<<64 - 1, 1<<64 - 1}}, 1000)
	if Sum(ones...) != Of(37000) || Product(ones...) != bigProduct(ones) {
		t.Errorf("1000 times 2^256 - 1: Sum %x, Product %x", Sum(ones...), Product(ones...))
	}
	if Product(Of(3), Elem{}, Of(5)) != (Elem{}) || Product(Of(3), limbs(prime()), Of(5)) != (Elem{}) {
		t.Errorf("Product with 0 or p")
	}
}

// TestSumExamples is of P5.2: those of the document.
func TestSumExamples(t *testing.T) {
	last := Elem{1<<64 - 20, 1<<64 - 1, 1<<64 - 1, 1<<63 - 1}
	if got := Sub(Of(0), Of(1)); got != last {
		t.Errorf("Sub(0, 1) = %x", got)
	}
	if got := Square(last); got != Of(1) {
		t.Errorf("Square(p - 1) = %x", got)
	}
	if got := Sum(last, Of(2)); got != Of(1) {
		t.Errorf("Sum(p - 1, 2) = %x", got)
	}
}
