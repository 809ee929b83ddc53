package codec

import "shallot/api"

// Cursor goes through bytes. Its bytes are never written to, so a copy of a Cursor goes on by itself.
type Cursor struct {
	b    []byte
	done int
}

// NewCursor returns a cursor over a copy of b of which nothing is consumed.
func NewCursor(b []byte) *Cursor { return &Cursor{b: clone(b)} }

// Left returns how many bytes remain.
func (c *Cursor) Left() int { return len(c.b) - c.done }

// Done returns how many bytes have been consumed.
func (c *Cursor) Done() int { return c.done }

// Take consumes and returns the next n bytes.
func (c *Cursor) Take(n int) ([]byte, api.Errno) {
	if n < 0 {
		return nil, api.ErrArg
	}
	if n > c.Left() {
		return nil, api.ErrSize
	}
	out := clone(c.b[c.done : c.done+n])
	c.done += n
	return out, api.OK
}

// Number consumes the next width bytes and returns the number that they are.
func (c *Cursor) Number(order, width int) (uint64, api.Errno) {
	n, e := Get(order, c.b, c.done, width)
	if e == api.OK {
		c.done += width
	}
	return n, e
}
