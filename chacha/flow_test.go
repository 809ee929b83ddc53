package chacha

import (
	"math"
	"slices"
	"testing"

	"shallot/api"
)

func begin32(t *testing.T, key []byte) *Flow {
	t.Helper()
	f, e := New(key)
	if e != api.OK || f == nil {
		t.Fatalf("New: %v, %v", f, e)
	}
	return f
}

// gives checks that the next bytes of a flow are these.
func gives(t *testing.T, name string, f *Flow, want []byte) {
	t.Helper()
	if got, e := f.Next(len(want)); e != api.OK || !slices.Equal(got, want) {
		t.Errorf("%s: Next(%d) = %d bytes, %v", name, len(want), len(got), e)
	}
}

// turns checks that the next bytes of a flow turn zero bytes to these.
func turns(t *testing.T, name string, f *Flow, want []byte) {
	t.Helper()
	if got, e := f.Turn(make([]byte, len(want))); e != api.OK || !slices.Equal(got, want) {
		t.Errorf("%s: Turn of %d bytes = %d bytes, %v", name, len(want), len(got), e)
	}
}

// refuses checks that a flow neither gives n bytes nor consumes any.
func refuses(t *testing.T, f *Flow, n int, want api.Errno) {
	t.Helper()
	before := *f
	if got, e := f.Next(n); e != want || len(got) != 0 {
		t.Errorf("Next(%d) = %d bytes, %v", n, len(got), e)
	}
	if *f != before {
		t.Errorf("Next(%d) consumes bytes", n)
	}
}

// TestFlowPieces is of P4.3: pieces of each size, through Next and through Turn, come to the stream.
func TestFlowPieces(t *testing.T) {
	key := counting()
	all := whole(t, key)[:1000]
	for size := 1; size <= 130; size++ {
		byNext, byTurn, both := begin32(t, key), begin32(t, key), begin32(t, key)
		for i, piece := range slices.Collect(slices.Chunk(all, size)) {
			gives(t, "next", byNext, piece)
			turns(t, "turn", byTurn, piece)
			if i%2 == 0 {
				gives(t, "both", both, piece)
			} else {
				turns(t, "both", both, piece)
			}
			gives(t, "nothing", both, nil)
			turns(t, "nothing", both, nil)
		}
	}
}

// TestFlowTurn is of P4.3: parts of any number, and what they become.
func TestFlowTurn(t *testing.T) {
	key, b := some(32), some(200)
	all := whole(t, key)
	for i := range len(b) + 1 {
		f, g := begin32(t, key), begin32(t, key)
		gives(t, "ahead", f, all[:5])
		gives(t, "ahead", g, all[:5])
		got, e := f.Turn(b[:i], nil, b[i:])
		if e != api.OK || !slices.Equal(got, xored(b, all[5:])) {
			t.Errorf("Turn divided at %d = %x, %v", i, got, e)
		}
		if again, e := g.Turn(got[:i/2], got[i/2:]); e != api.OK || !slices.Equal(again, b) {
			t.Errorf("Turn twice = %x, %v", again, e)
		}
		if got, e := f.Turn(); e != api.OK || len(got) != 0 {
			t.Errorf("Turn of nothing = %x, %v", got, e)
		}
		gives(t, "behind", f, all[205:300])
	}
}

// TestFlowEnd is of P4.3: the last bytes, and nothing behind them.
func TestFlowEnd(t *testing.T) {
	key := counting()
	all := whole(t, key)
	f := begin32(t, key)
	gives(t, "whole", f, all)
	for n, e := range map[int]api.Errno{1: api.ErrBound, api.MaxStream: api.ErrBound, -1: api.ErrArg, api.MaxStream + 1: api.ErrArg} {
		refuses(t, f, n, e)
	}
	if got, e := f.Turn([]byte{1}); e != api.ErrBound || len(got) != 0 {
		t.Errorf("Turn behind the end = %x, %v", got, e)
	}
	gives(t, "at the end", f, nil)
	turns(t, "at the end", f, nil)
	turns(t, "whole", begin32(t, key), all)
}

// TestFlowRefuses is of P4.3: ErrArg for a number that is never possible, ErrBound for one that is too great here.
func TestFlowRefuses(t *testing.T) {
	all := whole(t, make([]byte, 32))
	f := begin32(t, make([]byte, 32))
	for _, n := range []int{-1, math.MinInt, api.MaxStream + 1, math.MaxInt} {
		refuses(t, f, n, api.ErrArg)
	}
	gives(t, "first", f, all[:3])
	gives(t, "none", f, nil)
	gives(t, "next", f, all[3:73])
	for _, n := range []int{-1, math.MinInt, api.MaxStream + 1, math.MaxInt} {
		refuses(t, f, n, api.ErrArg)
	}
	refuses(t, f, 65464, api.ErrBound)
	refuses(t, f, api.MaxStream, api.ErrBound)
	gives(t, "rest", f, all[73:])
}

// TestFlowTurnRefuses is of P4.3 and of the details: always ErrBound, and nothing is consumed.
func TestFlowTurnRefuses(t *testing.T) {
	key := counting()
	all := whole(t, key)
	for _, done := range []int{0, 1, 64, 73, api.MaxStream - 1, api.MaxStream} {
		f := begin32(t, key)
		gives(t, "ahead", f, all[:done])
		left := api.MaxStream - done
		before := *f
		for _, parts := range [][][]byte{
			{make([]byte, left+1)},
			{make([]byte, left), {1}},
			{{1}, nil, make([]byte, left)},
			{make([]byte, api.MaxStream+1)},
			{make([]byte, api.MaxHash), make([]byte, api.MaxHash)},
		} {
			if got, e := f.Turn(parts...); e != api.ErrBound || len(got) != 0 || *f != before {
				t.Errorf("Turn of too much behind %d bytes: %d bytes, %v", done, len(got), e)
			}
		}
		turns(t, "rest", f, all[done:])
	}
}

// step is a call of a flow's method: Next(n), or Turn of n bytes.
type step struct {
	turn bool
	n    int
}

// TestFlowAnyCalls is of P4.3: each sequence of four such calls, near the end of the stream, against the stream itself.
func TestFlowAnyCalls(t *testing.T) {
	key := some(32)
	all := whole(t, key)
	var steps []step
	for _, n := range []int{0, 1, 30, 65, 100} {
		steps = append(steps, step{false, n}, step{true, n})
	}
	steps = append(steps, step{false, -1}, step{false, api.MaxStream + 1}, step{true, api.MaxStream + 1})
	const first = api.MaxStream - 140
	f := begin32(t, key)
	gives(t, "first", f, all[:first])
	var walk func(f Flow, rest []byte, depth int)
	walk = func(f Flow, rest []byte, depth int) {
		if depth == 0 {
			return
		}
		for _, s := range steps {
			next := f
			n := take(t, &next, rest, s)
			walk(next, rest[n:], depth-1)
		}
	}
	walk(*f, all[first:], 4)
}

// take does a step with a flow of which rest is left, and returns how many bytes it must consume.
func take(t *testing.T, f *Flow, rest []byte, s step) int {
	t.Helper()
	var got []byte
	var e, want api.Errno
	if s.turn {
		got, e = f.Turn(make([]byte, s.n))
	} else {
		got, e = f.Next(s.n)
	}
	switch {
	case !s.turn && (s.n < 0 || s.n > api.MaxStream):
		want = api.ErrArg
	case s.n > len(rest):
		want = api.ErrBound
	}
	if want != api.OK {
		if e != want || len(got) != 0 {
			t.Errorf("%v with %d bytes left: %d bytes, %v", s, len(rest), len(got), e)
		}
		return 0
	}
	if e != api.OK || !slices.Equal(got, rest[:s.n]) {
		t.Errorf("%v with %d bytes left: %d bytes, %v", s, len(rest), len(got), e)
	}
	return s.n
}

// TestFlowZero is of P4.3 and of the details: the key of zero bytes, from the beginning.
func TestFlowZero(t *testing.T) {
	all := whole(t, make([]byte, 32))
	gives(t, "zero", new(Flow), all)
	turns(t, "zero", new(Flow), all[:100])
	var c Counted
	if got, e := c.Next(100); e != api.OK || !slices.Equal(got, all[:100]) || c.Calls != 1 {
		t.Errorf("a zero Counted: Next(100) = %x, %v, %d calls", got, e, c.Calls)
	}
	turns(t, "zero Counted", &c.Flow, all[100:200])
}

// TestNewRefuses is of P4.3 and P4.4.
func TestNewRefuses(t *testing.T) {
	for _, key := range wrongKeys() {
		if f, e := New(key); e != api.ErrSize || f != nil {
			t.Errorf("New of %d bytes: %v, %v", len(key), f, e)
		}
		if c, e := Count(key); e != api.ErrSize || c != nil {
			t.Errorf("Count of %d bytes: %v, %v", len(key), c, e)
		}
	}
}

// TestCounted is of P4.4: the bytes are those of Flow; what succeeds is counted, and Turn is not.
func TestCounted(t *testing.T) {
	key := counting()
	all := whole(t, key)
	c, e := Count(key)
	if e != api.OK || c == nil || c.Calls != 0 {
		t.Fatalf("Count: %v, %v", c, e)
	}
	at, calls := 0, 0
	for _, n := range []int{3, 0, 70, 64, 1} {
		if got, e := c.Next(n); e != api.OK || !slices.Equal(got, all[at:at+n]) {
			t.Errorf("Next(%d) = %x, %v", n, got, e)
		}
		at, calls = at+n, calls+1
		if c.Calls != calls {
			t.Errorf("%d calls, not %d", c.Calls, calls)
		}
		if got, e := c.Turn(make([]byte, 2), make([]byte, 5)); e != api.OK || !slices.Equal(got, all[at:at+7]) || c.Calls != calls {
			t.Errorf("Turn = %x, %v, %d calls", got, e, c.Calls)
		}
		at += 7
	}
	for n, want := range map[int]api.Errno{-1: api.ErrArg, api.MaxStream + 1: api.ErrArg, api.MaxStream: api.ErrBound, api.MaxStream - at + 1: api.ErrBound} {
		if got, e := c.Next(n); e != want || len(got) != 0 || c.Calls != calls {
			t.Errorf("Next(%d) = %d bytes, %v, %d calls", n, len(got), e, c.Calls)
		}
	}
	if got, e := c.Turn(make([]byte, api.MaxStream)); e != api.ErrBound || len(got) != 0 || c.Calls != calls {
		t.Errorf("Turn of too much: %d bytes, %v, %d calls", len(got), e, c.Calls)
	}
	gives(t, "its Flow", &c.Flow, all[at:at+9])
	if c.Calls != calls {
		t.Errorf("Next of its Flow is counted")
	}
	if got, e := c.Next(api.MaxStream - at - 9); e != api.OK || !slices.Equal(got, all[at+9:]) || c.Calls != calls+1 {
		t.Errorf("the last bytes: %d, %v, %d calls", len(got), e, c.Calls)
	}
}

// TestCountedCalls is of P4.4: Calls goes on from what it is set to.
func TestCountedCalls(t *testing.T) {
	c, _ := Count(counting())
	for _, calls := range []int{-5, 41} {
		c.Calls = calls
		c.Next(-1)
		if c.Next(1); c.Calls != calls+1 {
			t.Errorf("%d calls behind %d", c.Calls, calls)
		}
	}
}
