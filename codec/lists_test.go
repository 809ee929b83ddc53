package codec

import (
	"math"
	"slices"
	"testing"

	"shallot/api"
)

func equalPieces(a, b [][]byte) bool {
	return slices.EqualFunc(a, b, func(x, y []byte) bool { return slices.Equal(x, y) })
}

// TestJoin is of P1.2.
func TestJoin(t *testing.T) {
	for _, c := range []struct {
		parts [][]byte
		want  []byte
	}{
		{nil, nil},
		{[][]byte{nil}, nil},
		{[][]byte{{}, nil, {}}, nil},
		{[][]byte{{7}}, []byte{7}},
		{[][]byte{{1}, {}, {2, 3}}, []byte{1, 2, 3}},
		{[][]byte{{3, 2}, {1}, {0}, nil}, []byte{3, 2, 1, 0}},
	} {
		if got := Join(c.parts...); !slices.Equal(got, c.want) {
			t.Errorf("Join(%v) = %v", c.parts, got)
		}
	}
}

// TestCut is of P1.2.
func TestCut(t *testing.T) {
	for _, c := range []struct {
		b     []byte
		sizes []int
		want  [][]byte
		e     api.Errno
	}{
		{nil, nil, nil, api.OK},
		{nil, []int{0, 0}, [][]byte{{}, {}}, api.OK},
		{[]byte{1, 2, 3}, []int{1, 0, 2}, [][]byte{{1}, {}, {2, 3}}, api.OK},
		{[]byte{1, 2, 3}, []int{3}, [][]byte{{1, 2, 3}}, api.OK},
		{[]byte{1, 2, 3}, []int{0, 2, 1, 0}, [][]byte{{}, {1, 2}, {3}, {}}, api.OK},
		{[]byte{1, 2}, nil, nil, api.ErrSize},
		{[]byte{1, 2}, []int{1}, nil, api.ErrSize},
		{[]byte{1, 2}, []int{1, 2}, nil, api.ErrSize},
		{[]byte{1, 2}, []int{3}, nil, api.ErrSize},
		{nil, []int{1}, nil, api.ErrSize},
		{[]byte{1, 2}, []int{3, -1}, nil, api.ErrArg},
		{[]byte{1, 2}, []int{-1, 3}, nil, api.ErrArg},
		{[]byte{1, 2}, []int{9, 9, math.MinInt}, nil, api.ErrArg},
		{[]byte{1, 2}, []int{math.MaxInt, 3}, nil, api.ErrSize},
		// As a sum of ints these come to the length.
		{nil, []int{math.MaxInt, math.MaxInt, 2}, nil, api.ErrSize},
		{[]byte{1}, []int{1, math.MaxInt, math.MaxInt, 2}, nil, api.ErrSize},
	} {
		got, e := Cut(c.b, c.sizes...)
		if e != c.e || !equalPieces(got, c.want) {
			t.Errorf("Cut(%v, %v) = %v, %v", c.b, c.sizes, got, e)
		}
	}
}

// TestCutJoins is of P1.2: the pieces, joined, are the whole.
func TestCutJoins(t *testing.T) {
	b := []byte("0123456789")
	for i := 0; i <= len(b); i++ {
		for j := i; j <= len(b); j++ {
			got, e := Cut(b, i, j-i, len(b)-j)
			if e != api.OK || len(got) != 3 || !slices.Equal(Join(got...), b) {
				t.Errorf("cut at %d and %d: %q, %v", i, j, got, e)
			}
		}
	}
}

// TestXor is of P1.2.
func TestXor(t *testing.T) {
	for _, c := range []struct {
		list [][]byte
		want []byte
		e    api.Errno
	}{
		{nil, nil, api.OK},
		{[][]byte{{}}, nil, api.OK},
		{[][]byte{nil, {}}, nil, api.OK},
		{[][]byte{{5}}, []byte{5}, api.OK},
		{[][]byte{{1, 2}, {3, 2}}, []byte{2, 0}, api.OK},
		{[][]byte{{1, 0xf0}, {2, 0x0f}, {4, 0xff}}, []byte{7, 0}, api.OK},
		{[][]byte{{1}, {}}, nil, api.ErrSize},
		{[][]byte{nil, {1}}, nil, api.ErrSize},
		{[][]byte{{1}, {1, 2}}, nil, api.ErrSize},
		{[][]byte{{1, 2}, {3, 4}, {5}}, nil, api.ErrSize},
	} {
		if got, e := Xor(c.list...); e != c.e || !slices.Equal(got, c.want) {
			t.Errorf("Xor(%v) = %v, %v", c.list, got, e)
		}
	}
}

// TestSameAndLooks is of P1.3.
func TestSameAndLooks(t *testing.T) {
	for _, c := range []struct {
		a, b []byte
		same bool
		n    int
	}{
		{nil, nil, true, 0},
		{nil, []byte{}, true, 0},
		{[]byte{1}, []byte{1}, true, 1},
		{[]byte{1, 2, 3}, []byte{1, 2, 3}, true, 3},
		{[]byte{1, 2, 3}, []byte{9, 2, 3}, false, 3},
		{[]byte{1, 2, 3}, []byte{1, 9, 3}, false, 3},
		{[]byte{1, 2, 3}, []byte{1, 2, 9}, false, 3},
		{[]byte{1, 2, 3}, []byte{9, 9, 9}, false, 3},
		{[]byte{1, 1}, []byte{2, 2}, false, 2}, // differences that cancel out
		{[]byte{0}, []byte{128}, false, 1},
		{[]byte{1}, []byte{1, 2}, false, 0},
		{[]byte{1, 2}, []byte{1}, false, 0},
		{[]byte{1}, nil, false, 0},
		{nil, []byte{0}, false, 0},
	} {
		if same, n := Looks(c.a, c.b); same != c.same || n != c.n {
			t.Errorf("Looks(%v, %v) = %v, %d", c.a, c.b, same, n)
		}
		if same := Same(c.a, c.b); same != c.same {
			t.Errorf("Same(%v, %v) = %v", c.a, c.b, same)
		}
	}
}

// TestPad is of P1.5.
func TestPad(t *testing.T) {
	for _, c := range []struct {
		b    []byte
		n    int
		want []byte
		e    api.Errno
	}{
		{[]byte{7}, 3, []byte{7, 0, 0}, api.OK},
		{[]byte{7, 8}, 2, []byte{7, 8}, api.OK},
		{nil, 2, []byte{0, 0}, api.OK},
		{nil, 0, nil, api.OK},
		{[]byte{7}, 0, nil, api.ErrSize},
		{[]byte{7, 8, 9}, 2, nil, api.ErrSize},
		{[]byte{7}, -1, nil, api.ErrArg},
		{nil, math.MinInt, nil, api.ErrArg},
		{nil, api.MaxHash + 1, nil, api.ErrArg},
		{[]byte{7}, math.MaxInt, nil, api.ErrArg},
		{make([]byte, api.MaxHash+2), api.MaxHash + 1, nil, api.ErrArg},
		{make([]byte, api.MaxHash+1), api.MaxHash, nil, api.ErrSize},
	} {
		if got, e := Pad(c.b, c.n); e != c.e || !slices.Equal(got, c.want) {
			t.Errorf("Pad of %d bytes to %d: %d bytes, %v", len(c.b), c.n, len(got), e)
		}
	}
	most, e := Pad([]byte{1, 2}, api.MaxHash)
	if e != api.OK || len(most) != api.MaxHash || !slices.Equal(most[:3], []byte{1, 2, 0}) || most[api.MaxHash-1] != 0 {
		t.Errorf("Pad to MaxHash: %d bytes, %v", len(most), e)
	}
}
