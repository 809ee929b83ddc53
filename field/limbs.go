package field

import "math/bits"

const (
	past    = 19                 // 2^255 modulo p
	pastTop = 2 * past           // 2^256 modulo p
	lowest  = 1<<limbBits - past // the limbs of p, the middle one twice
	middle  = 1<<limbBits - 1
	highest = 1<<(limbBits-1) - 1 // also what of a limb stands below 2^255
)

// plus returns a + b modulo 2^256, which is the whole sum of two normal elements.
func plus(a, b Elem) Elem {
	var carry uint64
	a[0], carry = bits.Add64(a[0], b[0], 0)
	a[1], carry = bits.Add64(a[1], b[1], carry)
	a[2], carry = bits.Add64(a[2], b[2], carry)
	a[3] += b[3] + carry
	return a
}

// plusWord returns a + n, where that is less than 2^256.
func plusWord(a Elem, n uint64) Elem {
	a[0], n = bits.Add64(a[0], n, 0)
	a[1], n = bits.Add64(a[1], n, 0)
	a[2], n = bits.Add64(a[2], n, 0)
	a[3] += n
	return a
}

// minus returns a - b modulo 2^256, and 1 if b is greater than a.
func minus(a, b Elem) (Elem, uint64) {
	var borrow uint64
	a[0], borrow = bits.Sub64(a[0], b[0], 0)
	a[1], borrow = bits.Sub64(a[1], b[1], borrow)
	a[2], borrow = bits.Sub64(a[2], b[2], borrow)
	a[3], borrow = bits.Sub64(a[3], b[3], borrow)
	return a, borrow
}

// times returns an element with the number a * b, not a normal one. The higher limbs of the product are no array, since with one it takes far longer.
func times(a, b Elem) Elem {
	var low Elem
	var h0, h1, h2, h3, carry uint64
	for i, x := range a {
		low[i], carry = timesPlus(x, b[0], h0, 0)
		h0, carry = timesPlus(x, b[1], h1, carry)
		h1, carry = timesPlus(x, b[2], h2, carry)
		h2, h3 = timesPlus(x, b[3], h3, carry)
	}
	low[0], carry = timesPlus(pastTop, h0, low[0], 0)
	low[1], carry = timesPlus(pastTop, h1, low[1], carry)
	low[2], carry = timesPlus(pastTop, h2, low[2], carry)
	low[3], carry = timesPlus(pastTop, h3, low[3], carry)
	return fold(low, carry)
}

// timesPlus returns x * y + m + n, the lower word first. Two words always hold it.
func timesPlus(x, y, m, n uint64) (uint64, uint64) {
	high, low := bits.Mul64(x, y)
	low, carry := bits.Add64(low, m, 0)
	high += carry
	low, carry = bits.Add64(low, n, 0)
	return low, high + carry
}

// fold returns an element with the number a + over * 2^256, for an over below 2^7: what stands from 2^255 on is 19 times as much at the bottom. The result is less than 2^255 + 19 * 2^8.
func fold(a Elem, over uint64) Elem {
	above := over<<1 | a[3]>>(limbBits-1)
	a[3] &= highest
	return plusWord(a, past*above)
}
