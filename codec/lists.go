package codec

import "shallot/api"

// Join returns the parts one behind the other.
func Join(parts ...[]byte) []byte {
	size := 0
	for _, p := range parts {
		size += len(p)
	}
	out := make([]byte, size)
	at := 0
	for _, p := range parts {
		at += copy(out[at:], p)
	}
	return out
}

// Cut divides b into consecutive pieces of these sizes.
func Cut(b []byte, sizes ...int) ([][]byte, api.Errno) {
	for _, n := range sizes {
		if n < 0 {
			return nil, api.ErrArg
		}
	}
	if !fills(sizes, len(b)) {
		return nil, api.ErrSize
	}
	out := make([][]byte, len(sizes))
	at := 0
	for i, n := range sizes {
		out[i] = clone(b[at : at+n])
		at += n
	}
	return out, api.OK
}

// fills reports whether the sizes, none of them negative, come to total. It counts down, since their sum may pass the greatest int.
func fills(sizes []int, total int) bool {
	for _, n := range sizes {
		if n > total {
			return false
		}
		total -= n
	}
	return total == 0
}

// Xor returns the bytewise exclusive or of all lists.
func Xor(list ...[]byte) ([]byte, api.Errno) {
	if len(list) == 0 {
		return nil, api.OK
	}
	out := make([]byte, len(list[0]))
	for _, b := range list {
		if len(b) != len(out) {
			return nil, api.ErrSize
		}
		for i, x := range b {
			out[i] ^= x
		}
	}
	return out, api.OK
}

// Same reports whether both lists have the same length and bytes.
func Same(a, b []byte) bool {
	same, _ := Looks(a, b)
	return same
}

// Looks reports the same, and at how many positions it compared bytes. It does not stop at the first difference, so that its steps tell nothing of where the lists differ.
func Looks(a, b []byte) (bool, int) {
	if len(a) != len(b) {
		return false, 0
	}
	var unlike byte
	looked := 0
	for i := range a {
		unlike |= a[i] ^ b[i]
		looked++
	}
	return unlike == 0, looked
}

// Pad returns b followed by zero bytes, n bytes in total.
func Pad(b []byte, n int) ([]byte, api.Errno) {
	if n < 0 || n > api.MaxHash {
		return nil, api.ErrArg
	}
	if len(b) > n {
		return nil, api.ErrSize
	}
	out := make([]byte, n)
	copy(out, b)
	return out, api.OK
}

func clone(b []byte) []byte {
	out := make([]byte, len(b))
	copy(out, b)
	return out
}
