package chacha

import (
	"shallot/api"
	"shallot/codec"
)

// Flow is a stream that is consumed piece by piece. It has no block of its own but computes it anew, so that the zero Flow is one and a copy is independent.
type Flow struct {
	key  [api.KeySize]byte
	done int // how many bytes are consumed, MaxStream at most
}

// New returns a flow at the beginning of a key's stream.
func New(key []byte) (*Flow, api.Errno) {
	if len(key) != api.KeySize {
		return nil, api.ErrSize
	}
	f := new(Flow)
	copy(f.key[:], key)
	return f, api.OK
}

// Next consumes and returns the next n bytes of the stream.
func (f *Flow) Next(n int) ([]byte, api.Errno) {
	if n < 0 || n > api.MaxStream {
		return nil, api.ErrArg
	}
	if n > f.left() {
		return nil, api.ErrBound
	}
	out := f.ahead(n)
	f.done += n
	return out, api.OK
}

// Turn returns the parts one behind the other, xored with the next bytes of the stream, which are consumed.
func (f *Flow) Turn(parts ...[]byte) ([]byte, api.Errno) {
	if !hold(f.left(), parts) {
		return nil, api.ErrBound
	}
	plain := codec.Join(parts...)
	stream, _ := f.Next(len(plain)) // always OK: so many bytes are left
	return codec.Xor(plain, stream)
}

// left returns how many bytes can still be consumed.
func (f *Flow) left() int { return api.MaxStream - f.done }

// ahead returns the next n bytes without consuming them.
func (f *Flow) ahead(n int) []byte {
	nonce := make([]byte, nonceSize)
	out := make([]byte, n)
	for i := 0; i < n; {
		at := f.done + i
		b := block(f.key[:], nonce, uint32(at/blockSize))
		i += copy(out[i:], b[at%blockSize:])
	}
	return out
}

// hold reports whether the parts have at most room bytes together. It counts down, so that parts that are too long need not be joined, and no sum passes the greatest int.
func hold(room int, parts [][]byte) bool {
	for _, p := range parts {
		if len(p) > room {
			return false
		}
		room -= len(p)
	}
	return true
}

// Counted is a Flow that counts its successful calls of Next.
type Counted struct {
	Flow
	Calls int
}

// Next is that of Flow, counted if it returned OK.
func (c *Counted) Next(n int) ([]byte, api.Errno) {
	out, e := c.Flow.Next(n)
	if e == api.OK {
		c.Calls++
	}
	return out, e
}

// Count returns a counted flow at the beginning of a key's stream.
func Count(key []byte) (*Counted, api.Errno) {
	f, e := New(key)
	if e != api.OK {
		return nil, e
	}
	return &Counted{Flow: *f}, api.OK
}
