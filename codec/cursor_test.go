package codec

import (
	"math"
	"slices"
	"testing"

	"shallot/api"
)

func stands(t *testing.T, c *Cursor, left, done int) {
	t.Helper()
	if c.Left() != left || c.Done() != done {
		t.Errorf("Left %d and Done %d, not %d and %d", c.Left(), c.Done(), left, done)
	}
}

// TestCursorWalk is of P1.6: a walk with errors between.
func TestCursorWalk(t *testing.T) {
	c := NewCursor([]byte{1, 2, 3, 4, 5, 6})
	stands(t, c, 6, 0)
	if b, e := c.Take(2); e != api.OK || !slices.Equal(b, []byte{1, 2}) {
		t.Errorf("Take(2) = %v, %v", b, e)
	}
	stands(t, c, 4, 2)
	for n, want := range map[int]api.Errno{5: api.ErrSize, math.MaxInt: api.ErrSize, -1: api.ErrArg, math.MinInt: api.ErrArg} {
		if b, e := c.Take(n); e != want || len(b) != 0 {
			t.Errorf("Take(%d) = %v, %v", n, b, e)
		}
	}
	stands(t, c, 4, 2)
	if n, e := c.Number(Big, 2); e != api.OK || n != 0x0304 {
		t.Errorf("Number(Big, 2) = %d, %v", n, e)
	}
	stands(t, c, 2, 4)
	if n, e := c.Number(Little, 2); e != api.OK || n != 0x0605 {
		t.Errorf("Number(Little, 2) = %d, %v", n, e)
	}
	stands(t, c, 0, 6)
	if b, e := c.Take(0); e != api.OK || len(b) != 0 {
		t.Errorf("Take(0) = %v, %v", b, e)
	}
	if b, e := c.Take(1); e != api.ErrSize || len(b) != 0 {
		t.Errorf("Take(1) at the end = %v, %v", b, e)
	}
	if n, e := c.Number(Big, 1); e != api.ErrSize || n != 0 {
		t.Errorf("Number(Big, 1) at the end = %d, %v", n, e)
	}
	stands(t, c, 0, 6)
}

// TestCursorNumberRefuses is of P1.6: the errors of Get, and nothing is consumed.
func TestCursorNumberRefuses(t *testing.T) {
	c := NewCursor([]byte{1, 2, 3})
	for _, order := range wrongOrders {
		if n, e := c.Number(order, 1); e != api.ErrArg || n != 0 {
			t.Errorf("Number(%d, 1) = %d, %v", order, n, e)
		}
	}
	for _, width := range wrongWidths {
		if n, e := c.Number(Big, width); e != api.ErrArg || n != 0 {
			t.Errorf("Number(Big, %d) = %d, %v", width, n, e)
		}
	}
	if n, e := c.Number(Little, 4); e != api.ErrSize || n != 0 {
		t.Errorf("Number(Little, 4) = %d, %v", n, e)
	}
	stands(t, c, 3, 0)
	if b, e := c.Take(3); e != api.OK || !slices.Equal(b, []byte{1, 2, 3}) {
		t.Errorf("Take(3) = %v, %v", b, e)
	}
	stands(t, c, 0, 3)
}

// TestCursorZero is of P1.6: the zero Cursor has no bytes.
func TestCursorZero(t *testing.T) {
	for _, c := range []*Cursor{new(Cursor), NewCursor(nil)} {
		stands(t, c, 0, 0)
		if b, e := c.Take(0); e != api.OK || len(b) != 0 {
			t.Errorf("Take(0) = %v, %v", b, e)
		}
		if _, e := c.Take(1); e != api.ErrSize {
			t.Errorf("Take(1): %v", e)
		}
		if _, e := c.Number(Little, 1); e != api.ErrSize {
			t.Errorf("Number(Little, 1): %v", e)
		}
		stands(t, c, 0, 0)
	}
}

// TestCursorCopy is of P1.6 and P1.7: a copy and its original go on by themselves.
func TestCursorCopy(t *testing.T) {
	c := NewCursor([]byte{1, 2, 3})
	c.Take(1)
	twin := *c
	b, _ := twin.Take(2)
	b[0], b[1] = 9, 9
	stands(t, &twin, 0, 3)
	stands(t, c, 2, 1)
	if b, e := c.Take(2); e != api.OK || !slices.Equal(b, []byte{2, 3}) {
		t.Errorf("Take(2) = %v, %v", b, e)
	}
}

// step is a call of a cursor's method: Take(n), or Number(order, n) if there is an order.
type step struct{ order, n int }

// TestCursorAnyCalls is of P1.6: each sequence of four such calls, against what Get and slices answer at that place.
func TestCursorAnyCalls(t *testing.T) {
	b := []byte{1, 2, 3, 4, 5, 6}
	steps := []step{{0, 0}, {0, 1}, {0, 3}, {0, 7}, {0, -1}, {Big, 2}, {Little, 3}, {Big, 0}, {3, 1}}
	var walk func(c Cursor, done, depth int)
	walk = func(c Cursor, done, depth int) {
		if c.Done() != done || c.Left() != len(b)-done {
			t.Errorf("Done %d and Left %d behind %d bytes", c.Done(), c.Left(), done)
		}
		if depth == 0 {
			return
		}
		for _, s := range steps {
			next := c
			walk(next, done+check(t, &next, b[done:], s), depth-1)
		}
	}
	walk(*NewCursor(b), 0, 4)
}

// check does a step with a cursor of which rest is left, and returns how many bytes it must consume.
func check(t *testing.T, c *Cursor, rest []byte, s step) int {
	t.Helper()
	if s.order != 0 {
		want, e := Get(s.order, rest, 0, s.n)
		if n, got := c.Number(s.order, s.n); got != e || n != want {
			t.Errorf("Number(%d, %d) with %v left = %d, %v", s.order, s.n, rest, n, got)
		}
		if e != api.OK {
			return 0
		}
		return s.n
	}
	got, e := c.Take(s.n)
	if s.n < 0 || s.n > len(rest) {
		if e == api.OK || len(got) != 0 {
			t.Errorf("Take(%d) with %v left = %v, %v", s.n, rest, got, e)
		}
		return 0
	}
	if e != api.OK || !slices.Equal(got, rest[:s.n]) {
		t.Errorf("Take(%d) with %v left = %v, %v", s.n, rest, got, e)
	}
	return s.n
}
