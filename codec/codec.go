// Package codec is layer 1: numbers as bytes; lists of bytes joined, cut, compared and written as text. Its promises: shared/doc/01-codec.md.
package codec

import "shallot/api"

// The orders of a number's bytes: which one comes first, the least or the most significant.
const (
	Little = 1
	Big    = 2
)

// maxWidth is how many bytes an uint64 has at most.
const maxWidth = 8

// Put returns n in width bytes.
func Put(order, width int, n uint64) ([]byte, api.Errno) {
	if !formed(order, width) {
		return nil, api.ErrArg
	}
	if n>>(8*width) != 0 {
		return nil, api.ErrSize
	}
	out := make([]byte, width)
	for i := range out {
		out[place(order, width, i)] = byte(n >> (8 * i))
	}
	return out, api.OK
}

// Get returns the number that the width bytes of b from index at on are.
func Get(order int, b []byte, at, width int) (uint64, api.Errno) {
	if !formed(order, width) || at < 0 {
		return 0, api.ErrArg
	}
	// Not at+width > len(b): that sum may pass the greatest int.
	if at > len(b)-width {
		return 0, api.ErrSize
	}
	var n uint64
	for i := range width {
		n |= uint64(b[at+place(order, width, i)]) << (8 * i)
	}
	return n, api.OK
}

func formed(order, width int) bool {
	return (order == Little || order == Big) && width >= 1 && width <= maxWidth
}

// place returns the index of the byte that counts 256^i.
func place(order, width, i int) int {
	if order == Big {
		return width - 1 - i
	}
	return i
}
