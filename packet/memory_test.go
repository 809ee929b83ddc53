package packet_test

import (
	"slices"
	"testing"

	"shallot/api"
	"shallot/dir"
	"shallot/keys"
	"shallot/packet"
)

// spoil overwrites a list, its spare capacity too.
func spoil[T any](list []T, with T) {
	for i := range list[:cap(list)] {
		list[:cap(list)][i] = with
	}
}

// TestMemoryOfArguments is of P14.6: bytes, hops, errors and data stay as they are, behind the ends of the lists too.
func TestMemoryOfArguments(t *testing.T) {
	b, hops := many(4, 1600), route(t, 6)
	list := []api.Errno{api.ErrOnce, api.OK, api.ErrForm, api.ErrSize, api.ErrArg}
	part := api.Part{Kind: 1, Count: 1, Data: b[40:440]}
	wasB, wasHops, wasList := slices.Clone(b), slices.Clone(hops), slices.Clone(list)
	packet.Parse(b[:767])
	p, _ := packet.Parse(b[:768])
	was := p
	for n := range 6 {
		packet.Build(b[:32], api.Command{Kind: 2}, b[50:530], hops[:n]...)
		packet.Build(b[:31], api.Command{Kind: 2}, b[50:529], hops[:n]...)
		packet.Send(b[:32], part, hops[:n]...)
		packet.Send(b[:32], api.Part{Kind: 3, Data: b}, hops[:n]...)
		packet.Hide(b[:32], hops[:n]...)
		packet.Least(list[:n-n/5]...)
	}
	p.Bytes()
	p.Fits(keys.Step{})
	p.Open(keys.Step{})
	if !slices.Equal(b, wasB) || !slices.Equal(list, wasList) || p != was {
		t.Errorf("the bytes were changed to %x, the errors to %v, the packet to %x", b, list, p)
	}
	if !slices.Equal(hops, wasHops) {
		t.Errorf("the hops were changed to %v", hops)
	}
}

// TestMemoryOfBytes is of P14.6: a packet does not hang on its bytes, nor these on it, nor on those of another call.
func TestMemoryOfBytes(t *testing.T) {
	b := many(5, 768)
	p, _ := packet.Parse(b)
	was := p
	spoil(b, 0xa5)
	one, two, head := p.Bytes(), p.Bytes(), p.Header.Bytes()
	spoil(one, 0x5a)
	spoil(head, 0x5a)
	if p != was || !slices.Equal(two, many(5, 768)) || !slices.Equal(p.Bytes(), two) {
		t.Errorf("the packet was changed to %x, its bytes to %x", p, two)
	}
}

// TestMemoryOfResults is of P14.6: a packet does not hang on what it was made of any more, and the same call makes the same one.
func TestMemoryOfResults(t *testing.T) {
	c := fine(t)
	part := api.Part{Kind: 1, Count: 1, Data: many(6, 99)}
	built, _ := packet.Build(c.x, c.last, c.body, c.hops...)
	sent, _ := packet.Send(c.x, part, c.hops...)
	hidden, _ := packet.Hide(c.x, c.hops...)
	spoil(c.x, 0)
	spoil(c.body, 0)
	spoil(c.hops, dir.Hop{})
	spoil(part.Data, 0)
	d := fine(t)
	again, e := packet.Build(d.x, d.last, d.body, d.hops...)
	is(t, "Build once more", again, e, built, api.OK)
	again, e = packet.Send(d.x, api.Part{Kind: 1, Count: 1, Data: many(6, 99)}, d.hops...)
	is(t, "Send once more", again, e, sent, api.OK)
	again, e = packet.Hide(d.x, d.hops...)
	is(t, "Hide once more", again, e, hidden, api.OK)
}
