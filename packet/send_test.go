package packet_test

import (
	"slices"
	"testing"

	"shallot/api"
	"shallot/dir"
	"shallot/frame"
	"shallot/packet"
)

// ends returns what the hops of route are told for a part of this kind.
func ends(hops []dir.Hop, kind byte) []api.Command {
	var cmds []api.Command
	for i, h := range hops {
		c := api.Command{Kind: 1, Flags: byte(h.Flags), Delay: uint32(h.Delay), Next: h.Id + 1}
		if i == len(hops)-1 {
			c.Kind, c.Next = kind, 0
		}
		cmds = append(cmds, c)
	}
	return cmds
}

// TestSendApart is of P14.3: the hashes of packets that were made apart, of a part of a message and of nothing.
func TestSendApart(t *testing.T) {
	part := api.Part{Kind: 1, Id: 9, Index: 1, Count: 3, Data: []byte("part of a message")}
	for i, want := range [][2]string{
		{"a1ed203e34840c7765ea16fa1b54b5df9cf75a6249883deb632396e7e78c36e4", "dbad13fface40c24b7bbcd3bf6cbe824a9d3206114ada71c2ee500a6049cbd63"},
		{"d10db43302471bfc48b778463fa3f7b5ac7c3b47e0c78f743f4a196261332984", "91f56052a14de79f5433fa48e9c99e3ebc3835ebd800dc7f7a28c7f6b95fd048"},
		{"531b385b42a17a2e48174ec01c3984db39c9e274d8eadc5ebbbf39315055ba51", "1e8368a12e3f5e229cde19771e8959f26e86ba110665d30b55e6c4bb1d8fa998"},
		{"981799ece79cb48e98e800c7159de0f4e72bea05e78eea48f5d958f1edfe9704", "03f2e9b03bf5fa988ae8f978a31a60abd4c0e3fb8fe4f22ee85f04d4051f652d"},
		{"7776498cf1ce98a6b67eaa5271ae0f30f7c369bd164b3e163f789c3fb29bff85", "418f8f09b1b15e2637747503c9a46cc5a2644759256c51864478ec545b9efe96"},
	} {
		hops := route(t, i+1)
		p, e := packet.Send(mixed(100), part, hops...)
		if e != api.OK || sum(p) != want[0] {
			t.Errorf("Send with %d hops = %x, %v", i+1, p.Bytes(), e)
		}
		p, e = packet.Hide(mixed(100), hops...)
		if e != api.OK || sum(p) != want[1] {
			t.Errorf("Hide with %d hops = %x, %v", i+1, p.Bytes(), e)
		}
	}
}

// TestSend is of P14.3 and P14.4: the last hop has the part, with the command that belongs to its kind.
func TestSend(t *testing.T) {
	parts := []api.Part{
		{Kind: 1, Count: 1},
		{Kind: 1, Id: 1<<64 - 1, Index: 15, Count: 16, Data: many(1, 450)},
		{Kind: 1, Id: 5, Index: 1, Count: 2, Data: []byte{0}},
		{Kind: 2, Count: 1},
	}
	for n := 1; n <= 5; n++ {
		hops := route(t, n)
		for i, part := range parts {
			x, kind := mixed(300+10*n+i), byte(api.Deliver)
			if part.Kind == 2 {
				kind = api.Cover
			}
			body, _ := frame.Frame(part)
			p, e := packet.Send(x, part, hops...)
			is(t, "Send", p, e, meant(t, x, api.Command{Kind: kind}, body, hops...), api.OK)
			got, e := frame.Parse(peel(t, p, ends(hops, kind), hops...))
			same := got.Kind == part.Kind && got.Id == part.Id && got.Index == part.Index && got.Count == part.Count && slices.Equal(got.Data, part.Data)
			if e != api.OK || !same {
				t.Errorf("the part %v arrives as %v, %v", part, got, e)
			}
		}
	}
}

// TestHide is of P14.3 and P14.4: nothing arrives, as a cover.
func TestHide(t *testing.T) {
	for n := 1; n <= 5; n++ {
		hops, x := route(t, n), mixed(400+n)
		p, e := packet.Hide(x, hops...)
		want, wantE := packet.Send(x, api.Part{Kind: 2, Count: 1}, hops...)
		is(t, "Hide", p, e, want, wantE)
		got, e := frame.Parse(peel(t, p, ends(hops, api.Cover), hops...))
		if e != api.OK || got.Kind != 2 || got.Id != 0 || got.Index != 0 || got.Count != 1 || len(got.Data) != 0 {
			t.Errorf("Hide arrives as %v, %v", got, e)
		}
	}
}

// wrongParts returns parts that can't be sent, with the error that each has by itself.
func wrongParts() []struct {
	api.Part
	e api.Errno
} {
	return []struct {
		api.Part
		e api.Errno
	}{
		{api.Part{}, api.ErrArg},
		{api.Part{Kind: 4, Count: 1}, api.ErrArg},
		{api.Part{Kind: 255, Count: 1, Data: make([]byte, 451)}, api.ErrArg},
		{api.Part{Kind: 1, Count: 1, Data: make([]byte, 451)}, api.ErrSize},
		{api.Part{Kind: 2, Count: 1, Data: make([]byte, 451)}, api.ErrSize},
		{api.Part{Kind: 3, Count: 1, Data: make([]byte, 451)}, api.ErrSize},
		{api.Part{Kind: 1, Count: 0, Data: make([]byte, 1000)}, api.ErrSize},
		{api.Part{Kind: 1}, api.ErrForm},
		{api.Part{Kind: 1, Count: 17}, api.ErrForm},
		{api.Part{Kind: 1, Count: 2, Index: 2}, api.ErrForm},
		{api.Part{Kind: 1, Count: 2, Index: -1}, api.ErrForm},
		{api.Part{Kind: 2}, api.ErrForm},
		{api.Part{Kind: 2, Count: 1, Id: 1}, api.ErrForm},
		{api.Part{Kind: 2, Count: 1, Data: []byte{1}}, api.ErrForm},
		{api.Part{Kind: 3, Count: 1}, api.ErrForm},
		{api.Part{Kind: 3, Count: 1, Id: 7, Data: []byte("back")}, api.ErrForm},
		{api.Part{Kind: 3}, api.ErrForm},
		{api.Part{Kind: 3, Count: 2}, api.ErrForm},
		{api.Part{Kind: 1, Count: 1}, api.OK},
		{api.Part{Kind: 2, Count: 1}, api.OK},
	}
}

// TestSendErrors is of P14.3: what is wrong with the part, alone and with one thing of the rest.
func TestSendErrors(t *testing.T) {
	for _, part := range wrongParts() {
		c := fine(t)
		if p, e := packet.Send(c.x, part.Part, c.hops...); e != part.e || (p == packet.Packet{}) != (e != api.OK) {
			t.Errorf("Send of %v = %x, %v, not %v", part.Part, p.Bytes(), e, part.e)
		}
		for i, change := range spoilers(t) {
			c := fine(t)
			change(&c)
			c.last, c.body = api.Command{Kind: 2}, make([]byte, 480) // which Send makes itself
			want := least(part.e, wrong(c))
			if p, e := packet.Send(c.x, part.Part, c.hops...); e != want || (p == packet.Packet{}) != (e != api.OK) {
				t.Errorf("Send of %v with the change %d = %x, %v, not %v", part.Part, i, p.Bytes(), e, want)
			}
		}
	}
}

// TestHideErrors is of P14.3: the errors of Send.
func TestHideErrors(t *testing.T) {
	for i, change := range spoilers(t) {
		c := fine(t)
		change(&c)
		c.last, c.body = api.Command{Kind: 3}, make([]byte, 480)
		want := wrong(c)
		if p, e := packet.Hide(c.x, c.hops...); e != want || (p == packet.Packet{}) != (want != api.OK) {
			t.Errorf("Hide with the change %d = %x, %v, not %v", i, p.Bytes(), e, want)
		}
	}
}

// TestSendExamples is of P14.3: the document's examples.
func TestSendExamples(t *testing.T) {
	p, e := packet.Send(mixed(1), api.Part{Kind: 3, Count: 1}, hop(t, 0))
	is(t, "Send of a Back part", p, e, packet.Packet{}, api.ErrForm)
	low := hop(t, 0)
	low.Pub = [32]byte{}
	p, e = packet.Hide(mixed(1), low)
	is(t, "Hide with a zero public key", p, e, packet.Packet{}, api.ErrZero)
}
