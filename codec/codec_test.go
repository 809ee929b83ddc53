package codec

import (
	"math"
	"slices"
	"testing"

	"shallot/api"
)

// What must be refused as an order or as a width, wherever one is asked for.
var (
	wrongOrders = []int{0, 3, -1, math.MinInt, math.MaxInt}
	wrongWidths = []int{0, 9, -1, 64, math.MinInt, math.MaxInt}
)

// TestNumbersAsBytes is of P1.1: which byte stands where.
func TestNumbersAsBytes(t *testing.T) {
	for _, c := range []struct {
		order, width int
		n            uint64
		b            []byte
	}{
		{Big, 2, 258, []byte{1, 2}},
		{Little, 2, 258, []byte{2, 1}},
		{Big, 1, 0, []byte{0}},
		{Little, 1, 255, []byte{255}},
		{Big, 3, 7, []byte{0, 0, 7}},
		{Little, 3, 7, []byte{7, 0, 0}},
		{Big, 4, 0xdeadbeef, []byte{0xde, 0xad, 0xbe, 0xef}},
		{Little, 5, 0x0102030405, []byte{5, 4, 3, 2, 1}},
		{Big, 8, 0x0102030405060708, []byte{1, 2, 3, 4, 5, 6, 7, 8}},
		{Little, 8, 0x0102030405060708, []byte{8, 7, 6, 5, 4, 3, 2, 1}},
		{Big, 8, math.MaxUint64, []byte{255, 255, 255, 255, 255, 255, 255, 255}},
	} {
		if b, e := Put(c.order, c.width, c.n); e != api.OK || !slices.Equal(b, c.b) {
			t.Errorf("Put(%d, %d, %d) = %v, %v", c.order, c.width, c.n, b, e)
		}
		if n, e := Get(c.order, c.b, 0, c.width); e != api.OK || n != c.n {
			t.Errorf("Get(%d, %v, 0, %d) = %d, %v", c.order, c.b, c.width, n, e)
		}
	}
}

// TestWidths is of P1.1: the greatest number of each width, and the first that is too great.
func TestWidths(t *testing.T) {
	for _, order := range []int{Little, Big} {
		for width := 1; width <= 8; width++ {
			most := uint64(math.MaxUint64) >> (64 - 8*width)
			b, e := Put(order, width, most)
			if e != api.OK || len(b) != width {
				t.Errorf("Put(%d, %d, %d) = %v, %v", order, width, most, b, e)
			}
			if n, e := Get(order, b, 0, width); e != api.OK || n != most {
				t.Errorf("Get of width %d = %d, %v", width, n, e)
			}
			if width == 8 {
				continue
			}
			for _, n := range []uint64{most + 1, math.MaxUint64} {
				if b, e := Put(order, width, n); e != api.ErrSize || len(b) != 0 {
					t.Errorf("Put(%d, %d, %d) = %v, %v", order, width, n, b, e)
				}
			}
		}
	}
}

// TestPutRefuses is of P1.1: ErrArg, also where ErrSize would apply as well.
func TestPutRefuses(t *testing.T) {
	for _, n := range []uint64{0, 1, math.MaxUint64} {
		for _, order := range wrongOrders {
			if b, e := Put(order, 2, n); e != api.ErrArg || len(b) != 0 {
				t.Errorf("Put(%d, 2, %d) = %v, %v", order, n, b, e)
			}
		}
		for _, width := range wrongWidths {
			if b, e := Put(Big, width, n); e != api.ErrArg || len(b) != 0 {
				t.Errorf("Put(Big, %d, %d) = %v, %v", width, n, b, e)
			}
		}
	}
}

// TestGetPlaces is of P1.1: from where Get reads, up to the last byte and not beyond.
func TestGetPlaces(t *testing.T) {
	b := []byte{9, 2, 1}
	for _, c := range []struct {
		at, width int
		n         uint64
		e         api.Errno
	}{
		{0, 1, 9, api.OK},
		{0, 3, 0x010209, api.OK},
		{1, 2, 258, api.OK},
		{2, 1, 1, api.OK},
		{2, 2, 0, api.ErrSize},
		{3, 1, 0, api.ErrSize},
		{0, 4, 0, api.ErrSize},
		{0, 8, 0, api.ErrSize},
		{math.MaxInt, 1, 0, api.ErrSize},
		{math.MaxInt, 8, 0, api.ErrSize},
		{-1, 1, 0, api.ErrArg},
		{-1, 8, 0, api.ErrArg},
		{math.MinInt, 1, 0, api.ErrArg},
	} {
		if n, e := Get(Little, b, c.at, c.width); e != c.e || n != c.n {
			t.Errorf("Get(Little, %v, %d, %d) = %d, %v", b, c.at, c.width, n, e)
		}
	}
	if n, e := Get(Big, nil, 0, 1); e != api.ErrSize || n != 0 {
		t.Errorf("Get out of no bytes = %d, %v", n, e)
	}
}

// TestGetRefuses is of P1.1: ErrArg, also where ErrSize would apply as well.
func TestGetRefuses(t *testing.T) {
	for _, b := range [][]byte{nil, {1, 2, 3, 4, 5, 6, 7, 8, 9}} {
		for _, order := range wrongOrders {
			if n, e := Get(order, b, 0, 2); e != api.ErrArg || n != 0 {
				t.Errorf("Get(%d, %v, 0, 2) = %d, %v", order, b, n, e)
			}
		}
		for _, width := range wrongWidths {
			if n, e := Get(Big, b, 0, width); e != api.ErrArg || n != 0 {
				t.Errorf("Get(Big, %v, 0, %d) = %d, %v", b, width, n, e)
			}
		}
	}
}
