package tape

import (
	"math"
	"slices"
	"testing"

	"shallot/api"
)

// acksOf returns the acknowledgements of a list that has nothing wrong.
func acksOf(t *testing.T, list ...api.Ack) Acks {
	t.Helper()
	a, e := NewAcks(list...)
	if e != api.OK {
		t.Fatalf("NewAcks(%v): %v", list, e)
	}
	return a
}

// tells checks what First returns, and Acked about that tick.
func tells(t *testing.T, a Acks, id uint64, at int, ok bool) {
	t.Helper()
	if got, found := a.First(id); got != at || found != ok {
		t.Errorf("First(%d) = %d, %v, not %d, %v", id, got, found, at, ok)
	}
	for _, now := range []int{math.MinInt, -1, 0, at - 1, at, at + 1, math.MaxInt} {
		if got := a.Acked(id, now); got != (ok && now >= at) {
			t.Errorf("Acked(%d, %d) = %v with the first one at %d, %v", id, now, got, at, ok)
		}
	}
}

// TestAcks is of P8.3: the example of the chapter, and other Ids and ticks.
func TestAcks(t *testing.T) {
	a := acksOf(t, api.Ack{At: 5, Id: 1}, api.Ack{At: 3, Id: 1}, api.Ack{At: 4, Id: 2})
	if a.Acked(1, 2) || !a.Acked(1, 3) || a.Acked(2, 3) || !a.Acked(2, 4) {
		t.Errorf("Acked of the example")
	}
	tells(t, a, 1, 3, true)
	tells(t, a, 2, 4, true)
	tells(t, a, 9, 0, false)
	tells(t, a, 0, 0, false)
	b := acksOf(t, api.Ack{At: 0, Id: 0}, api.Ack{At: 1 << 50, Id: math.MaxUint64}, api.Ack{At: 7, Id: 1 << 32})
	tells(t, b, 0, 0, true)
	tells(t, b, math.MaxUint64, 1<<50, true)
	tells(t, b, 1<<32, 7, true)
	tells(t, b, math.MaxUint32, 0, false)
}

// TestAcksOrder is of P8.3: the least tick, wherever it stands, also if it comes twice.
func TestAcksOrder(t *testing.T) {
	list := []api.Ack{{At: 6, Id: 3}, {At: 2, Id: 3}, {At: 2, Id: 3}, {At: 9, Id: 3}, {At: 1, Id: 4}}
	for i := range list {
		turned := slices.Concat(list[i:], list[:i])
		tells(t, acksOf(t, turned...), 3, 2, true)
		tells(t, acksOf(t, turned...), 4, 1, true)
		slices.Reverse(turned)
		tells(t, acksOf(t, turned...), 3, 2, true)
	}
}

// TestAcksZero is of P8.3: the zero Acks is empty, as is one of no list.
func TestAcksZero(t *testing.T) {
	for _, a := range []Acks{{}, acksOf(t), acksOf(t, []api.Ack{}...)} {
		for _, id := range []uint64{0, 1, math.MaxUint64} {
			tells(t, a, id, 0, false)
		}
	}
}

// numbered returns n acknowledgements: of the Id i at the tick 2i.
func numbered(n int) []api.Ack {
	list := make([]api.Ack, n)
	for i := range list {
		list[i] = api.Ack{At: 2 * i, Id: uint64(i)}
	}
	return list
}

// TestNewAcksMost is of P8.3: as many as there may be, all of them known.
func TestNewAcksMost(t *testing.T) {
	a := acksOf(t, numbered(api.MaxAcks)...)
	for i := range api.MaxAcks {
		tells(t, a, uint64(i), 2*i, true)
	}
	tells(t, a, api.MaxAcks, 0, false)
}

// TestNewAcksRefuses is of P8.3: ErrArg wherever the tick stands, also if there are too many; then the zero Acks.
func TestNewAcksRefuses(t *testing.T) {
	refuses := func(want api.Errno, list []api.Ack) {
		t.Helper()
		a, e := NewAcks(list...)
		if e != want || a.list != nil {
			t.Errorf("NewAcks of %d: %d, %v, not %v", len(list), len(a.list), e, want)
		}
	}
	for _, n := range []int{1, 2, 255, 256, 257, 1000} {
		for _, at := range []int{0, n / 2, n - 1} {
			for _, tick := range []int{-1, math.MinInt} {
				list := numbered(n)
				list[at].At = tick
				refuses(api.ErrArg, list)
			}
		}
	}
	for _, n := range []int{257, 258, 1000} {
		refuses(api.ErrSize, numbered(n))
	}
}
