package field

import "slices"

// Sum returns the sum of all elements.
func Sum(list ...Elem) Elem {
	var sum Elem
	for _, a := range list {
		sum = Norm(plus(sum, Norm(a)))
	}
	return sum
}

// Sub returns a - b.
func Sub(a, b Elem) Elem {
	out, borrow := minus(Norm(a), Norm(b))
	if borrow == 1 {
		// Both were normal, so one p more makes the difference normal.
		return plus(out, Elem{lowest, middle, middle, highest})
	}
	return out
}

// Product returns the product of all elements.
func Product(list ...Elem) Elem {
	if len(list) == 0 {
		return Of(1)
	}
	product := list[0]
	for _, a := range list[1:] {
		product = times(product, a)
	}
	return Norm(product)
}

// Square returns a * a.
func Square(a Elem) Elem { return Norm(times(a, a)) }

// Power returns a to the power of the number in the bytes e.
func Power(a Elem, e []byte) Elem {
	power := Of(1)
	for _, b := range slices.Backward(e) {
		for bit := 7; bit >= 0; bit-- {
			power = times(power, power)
			if b>>bit&1 == 1 {
				power = times(power, a)
			}
		}
	}
	return Norm(power)
}

// Inv returns the element whose product with a is 1, and 0 for 0.
func Inv(a Elem) Elem {
	// By Fermat, a to the power p - 1 is 1; so its power p - 2, which is -2 modulo p, is the inverse.
	e := Bytes(Sub(Of(0), Of(2)))
	return Power(a, e[:])
}
