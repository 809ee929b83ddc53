package tape

import (
	"slices"
	"testing"

	"shallot/api"
	"shallot/codec"
)

// feedOf returns a feed of what has nothing wrong.
func feedOf(t *testing.T, b []byte, acks ...api.Ack) *Feed {
	t.Helper()
	f, e := NewFeed(b, acks...)
	if e != api.OK || f == nil {
		t.Fatalf("NewFeed of %d bytes: %v, %v", len(b), f, e)
	}
	return f
}

// TestFeed is of P8.4: it is at its beginning, and has the methods of all three.
func TestFeed(t *testing.T) {
	f := feedOf(t, some(9), api.Ack{At: 5, Id: 1}, api.Ack{At: 3, Id: 1}, api.Ack{At: 4, Id: 2})
	if f.Left() != 9 || f.Done() != 0 || f.Now() != 0 || f.Waiting() != 0 {
		t.Errorf("a new feed: Left %d, Done %d, Now %d, Waiting %d", f.Left(), f.Done(), f.Now(), f.Waiting())
	}
	if b, e := f.Draw(2); e != api.OK || !slices.Equal(b, []byte{1, 2}) {
		t.Errorf("Draw(2) = %v, %v", b, e)
	}
	if l, e := f.Draws(1, 0, 1); e != api.OK || !slices.EqualFunc(l, [][]byte{{3}, {}, {4}}, slices.Equal) {
		t.Errorf("Draws(1, 0, 1) = %v, %v", l, e)
	}
	if b, e := f.Take(1); e != api.OK || !slices.Equal(b, []byte{5}) {
		t.Errorf("Take(1) = %v, %v", b, e)
	}
	if n, e := f.Number(codec.Little, 2); e != api.OK || n != 0x0706 {
		t.Errorf("Number(Little, 2) = %d, %v", n, e)
	}
	draws(t, &f.Tape, 3, nil, api.ErrTape)
	if e := f.Set(6, 8); e != api.OK || f.Waiting() != 1 {
		t.Errorf("Set(6, 8): %v, %d timers", e, f.Waiting())
	}
	if e := f.Move(4); e != api.OK || f.Now() != 4 {
		t.Errorf("Move(4): %v, at %d", e, f.Now())
	}
	rings(t, &f.Clock, 6, 8, true, 6, 0)
	tells(t, f.Acks, 1, 3, true)
	if at, ok := f.First(2); at != 4 || !ok || f.Acked(2, 3) || !f.Acked(2, 4) {
		t.Errorf("First(2) = %d, %v", at, ok)
	}
	stands(t, &f.Tape, 2, 7)
}

// TestHeard is of P8.4: what is acknowledged by the tick of the clock, however it got there.
func TestHeard(t *testing.T) {
	f := feedOf(t, nil, api.Ack{At: 0, Id: 7}, api.Ack{At: 5, Id: 1}, api.Ack{At: 3, Id: 1}, api.Ack{At: 4, Id: 2}, api.Ack{At: MaxTick + 1, Id: 3})
	hears := func(now int, ids ...uint64) {
		t.Helper()
		for id := range uint64(10) {
			if f.Heard(id) != slices.Contains(ids, id) || f.Heard(id) != f.Acked(id, f.Now()) {
				t.Errorf("Heard(%d) = %v at %d", id, f.Heard(id), f.Now())
			}
		}
		if f.Now() != now || f.Waiting() != 1 {
			t.Errorf("at %d with %d timers, not at %d with one", f.Now(), f.Waiting(), now)
		}
	}
	f.Set(2, 0)
	hears(0, 7)
	f.Set(3, 0)
	f.Due(3)
	hears(2, 7)
	f.Set(9, 0)
	f.Due(3)
	hears(3, 7, 1)
	f.Move(4)
	hears(4, 7, 1, 2)
	f.Move(MaxTick)
	hears(MaxTick, 7, 1, 2)
	f.Set(1, 0)
	f.Set(1, 0)
	f.Due(11)
	f.Due(MaxTick + 1)
	hears(MaxTick+1, 7, 1, 2, 3)
}

// TestFeedZero is of P8.4: the zero Feed has nothing.
func TestFeedZero(t *testing.T) {
	for _, f := range []*Feed{new(Feed), feedOf(t, nil)} {
		stands(t, &f.Tape, 0, 0)
		draws(t, &f.Tape, 1, nil, api.ErrTape)
		rings(t, &f.Clock, 5, 0, false, 0, 0)
		tells(t, f.Acks, 0, 0, false)
		if f.Heard(0) || f.Heard(1) {
			t.Errorf("the zero Feed has heard")
		}
	}
}

// TestNewFeedMost is of P8.4: as many bytes and acknowledgements as there may be.
func TestNewFeedMost(t *testing.T) {
	f := feedOf(t, make([]byte, api.MaxTape), numbered(api.MaxAcks)...)
	if f.Left() != 1048576 {
		t.Errorf("Left() = %d", f.Left())
	}
	tells(t, f.Acks, 255, 510, true)
}

// TestNewFeedRefuses is of P8.4: the errors of NewAcks, and ErrSize for the bytes; ErrArg, the least, whatever else is wrong.
func TestNewFeedRefuses(t *testing.T) {
	wrong := []api.Ack{{At: 1, Id: 1}, {At: -1, Id: 1}}
	many := append(numbered(api.MaxAcks), wrong...)
	for _, c := range []struct {
		size int
		acks []api.Ack
		want api.Errno
	}{
		{0, wrong, api.ErrArg},
		{api.MaxTape + 1, wrong, api.ErrArg},
		{0, many, api.ErrArg},
		{api.MaxTape + 1, many, api.ErrArg},
		{0, numbered(api.MaxAcks + 1), api.ErrSize},
		{api.MaxTape, numbered(api.MaxAcks + 1), api.ErrSize},
		{api.MaxTape + 1, nil, api.ErrSize},
		{api.MaxTape + 1, numbered(1), api.ErrSize},
		{api.MaxTape + 1, numbered(api.MaxAcks + 1), api.ErrSize},
		{2 * api.MaxTape, nil, api.ErrSize},
	} {
		if f, e := NewFeed(make([]byte, c.size), c.acks...); e != c.want || f != nil {
			t.Errorf("NewFeed of %d bytes and %d acknowledgements: %v, not %v", c.size, len(c.acks), e, c.want)
		}
	}
}
