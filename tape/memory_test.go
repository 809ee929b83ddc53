package tape

import (
	"slices"
	"testing"

	"shallot/api"
)

// spoil overwrites a list, its spare capacity too.
func spoil(b []byte) {
	for i := range b[:cap(b)] {
		b[:cap(b)][i] ^= 0xff
	}
}

// TestMemoryOfTape is of P8.5: a tape keeps a copy and answers with copies, of which no two share memory.
func TestMemoryOfTape(t *testing.T) {
	whole := some(20)
	b := whole[2:12]
	feed, e := NewFeed(b)
	if e != api.OK {
		t.Fatal(e)
	}
	for _, p := range []*Tape{NewTape(b), &feed.Tape} {
		twin := *p
		first, _ := p.Draw(2)
		spoil(first)
		list, _ := p.Draws(0, 2, 3, 0)
		for i, piece := range list {
			spoil(piece)
			for _, other := range list[i+1:] {
				if len(other) == 3 && !slices.Equal(other, []byte{7, 8, 9}) {
					t.Errorf("the pieces of Draws share memory")
				}
			}
		}
		draws(t, p, 3, []byte{10, 11, 12}, api.OK)
		drawsAll(t, &twin, []int{2, 8}, [][]byte{{3, 4}, {5, 6, 7, 8, 9, 10, 11, 12}}, api.OK)
	}
	if !slices.Equal(whole, some(20)) {
		t.Errorf("the bytes were changed to %v", whole)
	}
	p := NewTape(b)
	feed, _ = NewFeed(b)
	spoil(b)
	draws(t, p, 3, []byte{3, 4, 5}, api.OK)
	draws(t, &feed.Tape, 3, []byte{3, 4, 5}, api.OK)
}

// TestMemoryOfSizes is of P8.5: the list of sizes stays as it is.
func TestMemoryOfSizes(t *testing.T) {
	sizes := []int{1, 2, 9}[:2]
	p := NewTape(some(5))
	p.Draws(sizes...)
	p.Draws(sizes...)
	if !slices.Equal(sizes[:3], []int{1, 2, 9}) {
		t.Errorf("the sizes were changed to %v", sizes[:3])
	}
}

// TestMemoryOfAcks is of P8.5: the list stays as it is, and its later changes are not seen.
func TestMemoryOfAcks(t *testing.T) {
	list := []api.Ack{{At: 9, Id: 1}, {At: 4, Id: 2}, {At: 5, Id: 1}, {At: 1, Id: 1}}[:3]
	before := slices.Clone(list[:4])
	a := acksOf(t, list...)
	f := feedOf(t, nil, list...)
	tells(t, a, 1, 5, true)
	if !slices.Equal(list[:4], before) {
		t.Errorf("the list was changed to %v", list[:4])
	}
	for i := range list {
		list[i] = api.Ack{At: 0, Id: 3}
	}
	for _, a := range []Acks{a, f.Acks} {
		tells(t, a, 1, 5, true)
		tells(t, a, 2, 4, true)
		tells(t, a, 3, 0, false)
	}
}

// TestMemoryOfClocks is of P8.5: a copy and its original go on by themselves.
func TestMemoryOfClocks(t *testing.T) {
	var c Clock
	for i := range 5 {
		c.Set(i, 10+i)
	}
	twin := c
	rings(t, &c, 9, 10, true, 0, 4)
	rings(t, &c, 9, 11, true, 1, 3)
	c.Set(0, 50)
	twin.Set(0, 60)
	twin.Move(3)
	rings(t, &twin, 9, 10, true, 3, 5)
	rings(t, &twin, 9, 60, true, 3, 4)
	rings(t, &c, 9, 50, true, 1, 3)
	rings(t, &c, 9, 12, true, 2, 2)
	rings(t, &twin, 9, 11, true, 3, 3)
}

// TestMemoryOfFeeds is of P8.5: a copy of a feed goes on by itself, and two calls return two feeds.
func TestMemoryOfFeeds(t *testing.T) {
	f := feedOf(t, some(5), api.Ack{At: 2, Id: 1})
	f.Set(1, 7)
	twin := *f
	draws(t, &f.Tape, 4, []byte{1, 2, 3, 4}, api.OK)
	f.Move(3)
	f.Set(0, 8)
	if twin.Heard(1) || !f.Heard(1) {
		t.Errorf("a copy hears at the tick of its original")
	}
	draws(t, &twin.Tape, 5, some(5), api.OK)
	rings(t, &twin.Clock, 9, 7, true, 1, 0)
	rings(t, &f.Clock, 9, 7, true, 3, 1)
	if feedOf(t, nil) == feedOf(t, nil) || NewTape(nil) == NewTape(nil) {
		t.Errorf("two calls return the same thing")
	}
}
