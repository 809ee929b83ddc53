package field

import "testing"

// few returns elements for tests that go through all threes: edges thinned out, and mixed ones.
func few() []Elem {
	var out []Elem
	for i, a := range edges() {
		if i%9 == 0 {
			out = append(out, a)
		}
	}
	return append(out, mixed(12)...)
}

// TestLawsOfTwo is of P5.5: sums and products commute, subtraction reverses addition.
func TestLawsOfTwo(t *testing.T) {
	for _, a := range all() {
		for _, b := range all() {
			if Sum(a, b) != Sum(b, a) || Product(a, b) != Product(b, a) {
				t.Errorf("%x and %x do not commute", a, b)
			}
			if Sub(Sum(a, b), b) != Norm(a) || Sum(Sub(a, b), b) != Norm(a) || Sum(a, Sub(Of(0), b)) != Sub(a, b) {
				t.Errorf("Sub does not reverse Sum for %x and %x", a, b)
			}
		}
	}
}

// TestLawsOfThree is of P5.5: sums and products are associative, and products distributive.
func TestLawsOfThree(t *testing.T) {
	list := few()
	for _, a := range list {
		for _, b := range list {
			for _, c := range list {
				if s := Sum(a, b, c); Sum(Sum(a, b), c) != s || Sum(a, Sum(b, c)) != s {
					t.Errorf("sums of %x, %x, %x are not associative", a, b, c)
				}
				if p := Product(a, b, c); Product(Product(a, b), c) != p || Product(a, Product(b, c)) != p {
					t.Errorf("products of %x, %x, %x are not associative", a, b, c)
				}
				if Product(a, Sum(b, c)) != Sum(Product(a, b), Product(a, c)) || Product(Sub(a, b), c) != Sub(Product(a, c), Product(b, c)) {
					t.Errorf("products of %x, %x, %x are not distributive", a, b, c)
				}
			}
		}
	}
}

// TestLawsOfOne is of P5.5: neutral elements, inverses, the power p - 1.
func TestLawsOfOne(t *testing.T) {
	order := Bytes(Sub(Of(0), Of(1)))
	for _, a := range all() {
		if Sum(a, Of(0)) != Norm(a) || Product(a, Of(1)) != Norm(a) || Product(a, Of(0)) != Of(0) || Sub(a, a) != Of(0) {
			t.Errorf("0 or 1 is not neutral for %x", a)
		}
		want := Of(1)
		if Is(a, Of(0)) {
			want = Of(0)
		}
		if got := Product(a, Inv(a)); got != want {
			t.Errorf("%x times its inverse = %x", a, got)
		}
		if got := Power(a, order[:]); got != want {
			t.Errorf("%x to the power p - 1 = %x", a, got)
		}
		if Inv(Inv(a)) != Norm(a) || Square(a) != Product(a, a) || Power(a, []byte{2}) != Square(a) {
			t.Errorf("the inverse of the inverse or the square of %x", a)
		}
	}
}

// TestMemory is of rule 5: no argument changes, its spare capacity neither.
func TestMemory(t *testing.T) {
	all := mixed(8)
	Sum(all[:4]...)
	Product(all[:4]...)
	for i, a := range mixed(8) {
		if all[i] != a {
			t.Errorf("the element %d was changed to %x", i, all[i])
		}
	}
	fractions := []Ratio{{all[0], all[1]}, {all[2], all[3]}, {all[4], all[5]}}
	before := [3]Ratio(fractions)
	Over(fractions[:2]...)
	if [3]Ratio(fractions) != before {
		t.Errorf("the fractions were changed to %x", fractions)
	}
	b := Bytes(all[6])
	kept := b
	Read(b[:])
	Power(all[7], b[:20])
	if b != kept {
		t.Errorf("the bytes were changed to %x", b)
	}
}
