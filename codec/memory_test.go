package codec

import (
	"slices"
	"testing"

	"shallot/api"
)

// roomy returns a list with spare capacity in which bytes stand: what a call appends to it would be seen.
func roomy(b ...byte) []byte {
	whole := append(slices.Clone(b), 101, 102, 103, 104, 105, 106, 107, 108)
	return whole[:len(b)]
}

func whole(b []byte) []byte { return b[:cap(b)] }

// spoil overwrites a result, its spare capacity too.
func spoil(b []byte) {
	for i := range whole(b) {
		whole(b)[i] ^= 0xff
	}
}

// held checks that a call leaves its arguments as they are, also when its results are overwritten afterwards.
func held(t *testing.T, name string, args [][]byte, call func() [][]byte) {
	t.Helper()
	before := make([][]byte, len(args))
	for i, a := range args {
		before[i] = slices.Clone(whole(a))
	}
	results := call()
	for i, r := range results {
		others := make([][]byte, len(results))
		for j, o := range results {
			others[j] = slices.Clone(whole(o))
		}
		spoil(r)
		for j, o := range results {
			if j != i && !slices.Equal(whole(o), others[j]) {
				t.Errorf("%s: the results %d and %d share memory", name, i, j)
			}
		}
	}
	for i, a := range args {
		if !slices.Equal(whole(a), before[i]) {
			t.Errorf("%s: the argument %d has changed", name, i)
		}
	}
}

// TestMemory is of P1.7.
func TestMemory(t *testing.T) {
	a, b := roomy(1, 2, 3), roomy(4, 5, 6)
	args := [][]byte{a, b}
	held(t, "Put", nil, func() [][]byte {
		r, _ := Put(Big, 2, 258)
		s, _ := Put(Big, 2, 258)
		return [][]byte{r, s}
	})
	held(t, "Get", args, func() [][]byte {
		Get(Little, a, 0, 2)
		return nil
	})
	held(t, "Join", args, func() [][]byte { return [][]byte{Join(a, b), Join(a), Join(a, nil), Join(nil, a)} })
	held(t, "Cut", args, func() [][]byte {
		r, _ := Cut(a, 1, 0, 2)
		s, _ := Cut(a, 3)
		return append(r, s...)
	})
	held(t, "Xor", args, func() [][]byte {
		r, _ := Xor(a, b)
		s, _ := Xor(a)
		return [][]byte{r, s}
	})
	held(t, "Looks", args, func() [][]byte {
		Looks(a, b)
		Same(a, b)
		return nil
	})
	held(t, "Hex", args, func() [][]byte {
		r, _ := Unhex(Hex(a))
		s, _ := Unhex(Hex(a))
		return [][]byte{r, s}
	})
	held(t, "Pad", args, func() [][]byte {
		r, _ := Pad(a, 5)
		s, _ := Pad(a, 3)
		return [][]byte{r, s}
	})
	held(t, "Cursor", args, func() [][]byte {
		c := NewCursor(a)
		r, _ := c.Take(1)
		s, _ := c.Take(0)
		u, _ := c.Take(2)
		return [][]byte{r, s, u}
	})
}

// TestMemoryOfLists is of P1.7: the lists of sizes and of parts stay as they are, too.
func TestMemoryOfLists(t *testing.T) {
	sizes := []int{1, 2, 9}[:2]
	if _, e := Cut([]byte{1, 2, 3}, sizes...); e != api.OK || !slices.Equal(sizes[:3], []int{1, 2, 9}) {
		t.Errorf("Cut changed its sizes to %v: %v", sizes[:3], e)
	}
	parts := [][]byte{{1}, {2}, {3}}[:2]
	Join(parts...)
	Xor(parts...)
	if !equalPieces(parts[:3], [][]byte{{1}, {2}, {3}}) {
		t.Errorf("the parts were changed to %v", parts[:3])
	}
}

// TestMemoryOfCursor is of P1.7: a cursor keeps a copy, and answers with copies.
func TestMemoryOfCursor(t *testing.T) {
	b := []byte{1, 2, 3, 4}
	c := NewCursor(b)
	spoil(b)
	first, _ := c.Take(2)
	spoil(first)
	if got, e := c.Take(2); e != api.OK || !slices.Equal(got, []byte{3, 4}) {
		t.Errorf("Take(2) = %v, %v", got, e)
	}
}
