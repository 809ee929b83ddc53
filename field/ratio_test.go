package field

import "testing"

// TestValue is of P5.4: the quotient times Under is the Elem; 0 over nothing.
func TestValue(t *testing.T) {
	list := append(mixed(20), edges()...)
	for i, a := range list {
		b := list[(7*i+3)%len(list)]
		r := Ratio{Elem: a, Under: b}
		got := r.Value()
		if got != Norm(got) || got != bigProduct([]Elem{a, Inv(b)}) {
			t.Errorf("Value of %x over %x = %x", a, b, got)
		}
		if !Is(b, Elem{}) && bigProduct([]Elem{got, b}) != Norm(a) {
			t.Errorf("Value of %x over %x, times that = %x", a, b, bigProduct([]Elem{got, b}))
		}
		if got := (Ratio{Elem: a, Under: limbs(prime())}).Value(); got != (Elem{}) {
			t.Errorf("Value of %x over p = %x", a, got)
		}
		if got := (Ratio{Elem: a, Under: Of(1)}).Value(); got != Norm(a) {
			t.Errorf("Value of %x over 1 = %x", a, got)
		}
	}
}

// TestValueExamples is of P5.4: those of the document, and the zero Ratio.
func TestValueExamples(t *testing.T) {
	for _, c := range []struct{ a, b, want uint64 }{{6, 3, 2}, {6, 0, 0}, {0, 0, 0}, {0, 5, 0}, {5, 5, 1}, {38, 19, 2}} {
		if got := (Ratio{Elem: Of(c.a), Under: Of(c.b)}).Value(); got != Of(c.want) {
			t.Errorf("Value of %d over %d = %x", c.a, c.b, got)
		}
	}
	if (Ratio{}).Value() != (Elem{}) {
		t.Errorf("Value of the zero Ratio = %x", Ratio{}.Value())
	}
}

// TestOver is of P5.4: both products, normal, for any number of fractions; nothing is cancelled.
func TestOver(t *testing.T) {
	var list []Ratio
	var tops, unders []Elem
	some := mixed(60)
	for i := range 30 {
		for _, r := range []Ratio{{}, {Elem: some[i], Under: some[30+i]}} {
			if got := Over(r); got != (Ratio{Elem: Norm(r.Elem), Under: Norm(r.Under)}) {
				t.Errorf("Over of %x alone = %x", r, got)
			}
		}
		list = append(list, Ratio{Elem: some[i], Under: some[30+i]})
		tops, unders = append(tops, some[i]), append(unders, some[30+i])
		want := Ratio{Elem: bigProduct(tops), Under: bigProduct(unders)}
		if got := Over(list...); got != want {
			t.Errorf("Over of %d = %x, not %x", len(list), got, want)
		}
		if Over(list...).Odd() != want.Elem.Odd() || Over(list...).Value() != want.Value() {
			t.Errorf("Over of %d: another Odd or Value", len(list))
		}
	}
	for _, e := range edges() {
		if got := Over(Ratio{Elem: e, Under: e}); got != (Ratio{Elem: Norm(e), Under: Norm(e)}) {
			t.Errorf("Over of %x over itself = %x", e, got)
		}
	}
}

// TestOverExamples is of P5.4: those of the document, fractions over 0, and none.
func TestOverExamples(t *testing.T) {
	over := func(a, b uint64) Ratio { return Ratio{Elem: Of(a), Under: Of(b)} }
	for _, c := range []struct {
		list []Ratio
		want Ratio
	}{
		{nil, over(1, 1)}, {[]Ratio{}, over(1, 1)}, {[]Ratio{over(1, 2), over(3, 5)}, over(3, 10)},
		{[]Ratio{over(2, 4)}, over(2, 4)}, {[]Ratio{over(2, 3), over(3, 2)}, over(6, 6)},
		{[]Ratio{over(7, 0), over(3, 5)}, over(21, 0)}, {[]Ratio{over(0, 7), over(3, 5)}, over(0, 35)}, {[]Ratio{{}, {}}, over(0, 0)},
	} {
		if got := Over(c.list...); got != c.want {
			t.Errorf("Over(%v) = %v", c.list, got)
		}
	}
	if Over() != over(1, 1) {
		t.Errorf("Over() = %v", Over())
	}
}
