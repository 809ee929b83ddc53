package field

// Ratio is a fraction: the Elem divided by Under.
type Ratio struct {
	Elem
	Under Elem
}

// Value returns the quotient, 0 if Under is 0.
func (r Ratio) Value() Elem { return Product(r.Elem, Inv(r.Under)) }

// Over returns the product of all fractions.
func Over(r ...Ratio) Ratio {
	over := Ratio{Elem: Of(1), Under: Of(1)}
	for _, f := range r {
		over = Ratio{Elem: Product(over.Elem, f.Elem), Under: Product(over.Under, f.Under)}
	}
	return over
}
