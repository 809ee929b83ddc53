package codec

import "shallot/api"

const digits = "0123456789abcdef"

// Hex returns two digits for each byte.
func Hex(b []byte) string {
	out := make([]byte, 2*len(b))
	for i, x := range b {
		out[2*i] = digits[x>>4]
		out[2*i+1] = digits[x&15]
	}
	return string(out)
}

// Unhex returns the bytes of which s has the digits.
func Unhex(s string) ([]byte, api.Errno) {
	if len(s)%2 != 0 {
		return nil, api.ErrSize
	}
	out := make([]byte, len(s)/2)
	for i := range out {
		high, ok1 := digit(s[2*i])
		low, ok2 := digit(s[2*i+1])
		if !ok1 || !ok2 {
			return nil, api.ErrForm
		}
		out[i] = high<<4 | low
	}
	return out, api.OK
}

// digit returns the value of a digit. Upper case is none: Hex never writes it, and the two are inverse to each other.
func digit(c byte) (byte, bool) {
	if c >= '0' && c <= '9' {
		return c - '0', true
	}
	if c >= 'a' && c <= 'f' {
		return c - 'a' + 10, true
	}
	return 0, false
}
