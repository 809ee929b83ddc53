package tape

import (
	"math"
	"slices"
	"testing"

	"shallot/api"
	"shallot/codec"
)

// some returns the bytes 1, 2, .. n.
func some(n int) []byte {
	b := make([]byte, n)
	for i := range b {
		b[i] = byte(i + 1)
	}
	return b
}

// stands checks where a tape is.
func stands(t *testing.T, p *Tape, left, done int) {
	t.Helper()
	if p.Left() != left || p.Done() != done {
		t.Errorf("Left %d and Done %d, not %d and %d", p.Left(), p.Done(), left, done)
	}
}

// draws checks what Draw of n bytes returns, and that it consumes as many bytes as it returns.
func draws(t *testing.T, p *Tape, n int, want []byte, wantE api.Errno) {
	t.Helper()
	left, done := p.Left(), p.Done()
	if b, e := p.Draw(n); e != wantE || !slices.Equal(b, want) {
		t.Errorf("Draw(%d) = %v, %v, not %v, %v", n, b, e, want, wantE)
	}
	stands(t, p, left-len(want), done+len(want))
}

// drawsAll is the same for Draws.
func drawsAll(t *testing.T, p *Tape, sizes []int, want [][]byte, wantE api.Errno) {
	t.Helper()
	left, done := p.Left(), p.Done()
	list, e := p.Draws(sizes...)
	if e != wantE || !slices.EqualFunc(list, want, slices.Equal) {
		t.Errorf("Draws(%v) = %v, %v, not %v, %v", sizes, list, e, want, wantE)
	}
	n := len(slices.Concat(want...))
	stands(t, p, left-n, done+n)
}

// TestDraw is of P8.1: a walk with errors between.
func TestDraw(t *testing.T) {
	p := NewTape(some(10))
	stands(t, p, 10, 0)
	draws(t, p, 2, []byte{1, 2}, api.OK)
	draws(t, p, 0, nil, api.OK)
	for _, n := range []int{9, 10, 1000, math.MaxInt} {
		draws(t, p, n, nil, api.ErrTape)
	}
	for _, n := range []int{-1, -8, math.MinInt} {
		draws(t, p, n, nil, api.ErrArg)
	}
	draws(t, p, 7, []byte{3, 4, 5, 6, 7, 8, 9}, api.OK)
	draws(t, p, 2, nil, api.ErrTape)
	draws(t, p, 1, []byte{10}, api.OK)
	draws(t, p, 1, nil, api.ErrTape)
	draws(t, p, -1, nil, api.ErrArg)
	draws(t, p, 0, nil, api.OK)
}

// TestDraws is of P8.1: all or none.
func TestDraws(t *testing.T) {
	p := NewTape(some(10))
	drawsAll(t, p, nil, nil, api.OK)
	drawsAll(t, p, []int{1, 0, 2}, [][]byte{{1}, {}, {2, 3}}, api.OK)
	for _, sizes := range [][]int{{8}, {7, 1}, {1, 7}, {0, 3, 0, 5}, {math.MaxInt}, {1, math.MaxInt}, {math.MaxInt, math.MaxInt, 2}, {math.MaxInt, 1}} {
		drawsAll(t, p, sizes, nil, api.ErrTape)
	}
	for _, sizes := range [][]int{{-1}, {1, -1}, {-1, 1}, {8, -1}, {-1, 8}, {8, -8}, {1, 1, math.MinInt}, {math.MaxInt, math.MinInt}} {
		drawsAll(t, p, sizes, nil, api.ErrArg)
	}
	drawsAll(t, p, []int{0, 0}, [][]byte{{}, {}}, api.OK)
	drawsAll(t, p, []int{3, 4}, [][]byte{{4, 5, 6}, {7, 8, 9, 10}}, api.OK)
	drawsAll(t, p, []int{0}, [][]byte{{}}, api.OK)
	drawsAll(t, p, nil, nil, api.OK)
	drawsAll(t, p, []int{0, 1}, nil, api.ErrTape)
	drawsAll(t, p, []int{1, -1}, nil, api.ErrArg)
}

// TestTapeExamples is of P8.1: those of the chapter.
func TestTapeExamples(t *testing.T) {
	p := NewTape([]byte{1, 2, 3})
	draws(t, p, 2, []byte{1, 2}, api.OK)
	draws(t, p, 2, nil, api.ErrTape)
	stands(t, p, 1, 2)
	drawsAll(t, p, []int{5, -1}, nil, api.ErrArg)
	drawsAll(t, p, []int{1, 0}, [][]byte{{3}, {}}, api.OK)
	drawsAll(t, p, []int{1}, nil, api.ErrTape)
}

// TestTapePromoted is of P8.1: the methods of the cursor go through the same bytes, with their own errors.
func TestTapePromoted(t *testing.T) {
	p := NewTape(some(9))
	draws(t, p, 1, []byte{1}, api.OK)
	if b, e := p.Take(2); e != api.OK || !slices.Equal(b, []byte{2, 3}) {
		t.Errorf("Take(2) = %v, %v", b, e)
	}
	if n, e := p.Number(codec.Big, 2); e != api.OK || n != 0x0405 {
		t.Errorf("Number(Big, 2) = %d, %v", n, e)
	}
	if b, e := p.Take(5); e != api.ErrSize || len(b) != 0 {
		t.Errorf("Take(5) = %v, %v", b, e)
	}
	if b, e := p.Take(-1); e != api.ErrArg || len(b) != 0 {
		t.Errorf("Take(-1) = %v, %v", b, e)
	}
	if n, e := p.Number(codec.Little, 5); e != api.ErrSize || n != 0 {
		t.Errorf("Number(Little, 5) = %d, %v", n, e)
	}
	if n, e := p.Number(3, 1); e != api.ErrArg || n != 0 {
		t.Errorf("Number(3, 1) = %d, %v", n, e)
	}
	stands(t, p, 4, 5)
	drawsAll(t, p, []int{1, 3}, [][]byte{{6}, {7, 8, 9}}, api.OK)
}

// TestTapeZero is of P8.1: the zero Tape has no bytes.
func TestTapeZero(t *testing.T) {
	for _, p := range []*Tape{new(Tape), NewTape(nil), NewTape([]byte{})} {
		stands(t, p, 0, 0)
		draws(t, p, 0, nil, api.OK)
		draws(t, p, 1, nil, api.ErrTape)
		draws(t, p, -1, nil, api.ErrArg)
		drawsAll(t, p, []int{0, 0}, [][]byte{{}, {}}, api.OK)
		drawsAll(t, p, []int{0, 1}, nil, api.ErrTape)
		drawsAll(t, p, []int{1, -1}, nil, api.ErrArg)
	}
}

// TestTapeAnyCalls is of P8.1 and P8.5: each sequence of five lists of sizes, on copies of one tape, against its bytes.
func TestTapeAnyCalls(t *testing.T) {
	all := some(7)
	lists := [][]int{{}, {0}, {1}, {2, 1}, {1, 0, 3}, {5}, {3, -1}, {8}}
	var walk func(p Tape, done, depth int)
	walk = func(p Tape, done, depth int) {
		stands(t, &p, len(all)-done, done)
		if depth == 0 {
			return
		}
		for _, sizes := range lists {
			next := p
			want, e := pieces(all[done:], sizes)
			drawsAll(t, &next, sizes, want, e)
			walk(next, done+len(slices.Concat(want...)), depth-1)
			if len(sizes) == 1 {
				next = p
				draws(t, &next, sizes[0], slices.Concat(want...), e)
			}
		}
	}
	walk(*NewTape(all), 0, 5)
}

// pieces returns the first bytes of a list by these sizes, as Draws must.
func pieces(b []byte, sizes []int) ([][]byte, api.Errno) {
	if slices.ContainsFunc(sizes, func(n int) bool { return n < 0 }) {
		return nil, api.ErrArg
	}
	var out [][]byte
	for _, n := range sizes {
		if n > len(b) {
			return nil, api.ErrTape
		}
		out = append(out, b[:n])
		b = b[n:]
	}
	return out, api.OK
}

// TestTapeLong is of P8.1: a tape has no limit of its own, and goes to its last byte.
func TestTapeLong(t *testing.T) {
	b := make([]byte, api.MaxTape+5)
	b[len(b)-1] = 7
	p := NewTape(b)
	if got, e := p.Draw(api.MaxTape + 4); e != api.OK || len(got) != api.MaxTape+4 {
		t.Errorf("Draw of all but one: %d bytes, %v", len(got), e)
	}
	draws(t, p, 1, []byte{7}, api.OK)
	sizes := slices.Repeat([]int{1, 0}, 2000)
	list, e := NewTape(b).Draws(sizes...)
	if e != api.OK || len(list) != len(sizes) {
		t.Errorf("Draws of %d sizes: %d pieces, %v", len(sizes), len(list), e)
	}
	for i, piece := range list {
		if len(piece) != sizes[i] {
			t.Fatalf("the piece %d has %d bytes", i, len(piece))
		}
	}
}
