package packet_test

import (
	"slices"
	"testing"

	"shallot/api"
	"shallot/command"
	"shallot/dir"
	"shallot/header"
	"shallot/keys"
	"shallot/packet"
	"shallot/wide"
)

// marked returns a mark without zero bytes.
func marked() [16]byte {
	var m [16]byte
	for i := range m {
		m[i] = byte(0xa0 + i)
	}
	return m
}

// sevens returns 480 bytes, the multiples of 7.
func sevens() []byte {
	b := make([]byte, 480)
	for i := range b {
		b[i] = byte(7 * i)
	}
	return b
}

// meant returns the packet that the document tells, of what the lower layers make.
func meant(t *testing.T, x []byte, last api.Command, body []byte, hops ...dir.Hop) packet.Packet {
	t.Helper()
	cmds, e1 := command.Path(last, hops...)
	steps, e2 := keys.Schedule(x, dir.Publics(hops...)...)
	h, e3 := header.Build(cmds, steps...)
	sealed := slices.Clone(body)
	for i := len(steps) - 1; i >= 0; i-- {
		sealed, _ = wide.Seal(steps[i].Pay[:], sealed)
	}
	if e1 != api.OK || e2 != api.OK || e3 != api.OK || len(sealed) != 480 {
		t.Fatalf("errors: %v, %v, %v; a payload of %d bytes", e1, e2, e3, len(sealed))
	}
	return packet.Packet{Header: h, Body: [480]byte(sealed)}
}

// peel walks along the hops with their private keys, compares what each is told, and returns the payload at the end.
func peel(t *testing.T, p packet.Packet, cmds []api.Command, hops ...dir.Hop) []byte {
	t.Helper()
	for i, h := range hops {
		if len(p.Bytes()) != 768 {
			t.Fatalf("at %d of %d: %d bytes", i, len(hops), len(p.Bytes()))
		}
		s, e := keys.Peel(h.Priv[:], p.Alpha[:])
		if e != api.OK {
			t.Fatalf("Peel at %d of %d: %v", i, len(hops), e)
		}
		c, next, e := p.Open(s)
		if e != api.OK || c != cmds[i] {
			t.Fatalf("Open at %d of %d = %v, %v, not %v", i, len(hops), c, e, cmds[i])
		}
		body, e := wide.Open(s.Pay[:], p.Body[:])
		if e != api.OK {
			t.Fatalf("the payload at %d of %d: %v", i, len(hops), e)
		}
		p = packet.Packet{Header: next, Body: [480]byte(body)}
	}
	if p.Header != (header.Header{}) {
		t.Errorf("behind the last hop: %x", p.Header.Bytes())
	}
	return p.Body[:]
}

// TestBuildApart is of P14.2: the hashes of packets that were made apart.
func TestBuildApart(t *testing.T) {
	for i, want := range []string{
		"6b24e33553c98ca02fa01a2a4a14256d731f367e2a7880ce112685bdafc0e000",
		"fb9a58d82ddc6fe6553b066c347bfc2af9054fb3df92d6a8d0789278f42856b9",
		"cb357a478c3a02ce4547e9e4bc9446166f11cd087a69e45ea9aced29c33303a5",
		"f2ac8355cea0f23107c9b86b4c967b8f7dd5df7c7435887a722174f21d2fbc56",
		"cf626825492b35fd8265e7faa7e658a48583418522f5907e0bb17c7c6ab6510b",
	} {
		p, e := packet.Build(mixed(100), api.Command{Kind: 4, Mark: marked()}, sevens(), route(t, i+1)...)
		if e != api.OK || sum(p) != want {
			t.Errorf("Build with %d hops = %x, %v", i+1, p.Bytes(), e)
		}
	}
}

// TestBuild is of P14.2 and P14.4: any payload, each kind at the end, one to five hops; each hop is told its own, and the last one has the payload.
func TestBuild(t *testing.T) {
	for n := 1; n <= 5; n++ {
		hops := route(t, n)
		for i, last := range []api.Command{{Kind: 2}, {Kind: 3}, {Kind: 4}, {Kind: 4, Mark: marked()}} {
			for _, body := range [][]byte{make([]byte, 480), many(10*n+i, 480)} {
				x := mixed(200 + 10*n + i)
				p, e := packet.Build(x, last, body, hops...)
				is(t, "Build", p, e, meant(t, x, last, body, hops...), api.OK)
				var cmds []api.Command
				for j, h := range hops {
					c := api.Command{Kind: 1, Flags: byte(h.Flags), Delay: uint32(h.Delay), Next: h.Id + 1}
					if j == n-1 {
						c.Kind, c.Next, c.Mark = last.Kind, 0, last.Mark
					}
					cmds = append(cmds, c)
				}
				if got := peel(t, p, cmds, hops...); !slices.Equal(got, body) {
					t.Errorf("the payload behind %d hops is %x", n, got)
				}
			}
		}
	}
}

// TestBuildOdd is of P14.2: what does not count (the last command's delay and flags, the first hop's Id, names, private keys), the edges of what may be said, and one hop several times.
func TestBuildOdd(t *testing.T) {
	x, body := mixed(101), many(2, 480)
	hops := route(t, 3)
	want := meant(t, x, api.Command{Kind: 2}, body, hops...)
	p, e := packet.Build(x, api.Command{Kind: 2, Flags: 255, Delay: 1<<32 - 1}, body, hops...)
	is(t, "Build with a delay of the last command", p, e, want, api.OK)
	for i := range hops {
		hops[i].Name, hops[i].Priv = "", [32]byte{}
	}
	hops[0].Id = 0
	p, e = packet.Build(x, api.Command{Kind: 2}, body, hops...)
	is(t, "Build with a first hop without an Id", p, e, want, api.OK)

	edge := slices.Repeat(route(t, 1), 5)
	for i := range edge {
		edge[i].Delay, edge[i].Flags, edge[i].Id = 1000000, 255, 1<<64-1
	}
	p, e = packet.Build(x, api.Command{Kind: 3}, body, edge...)
	is(t, "Build with one hop several times", p, e, meant(t, x, api.Command{Kind: 3}, body, edge...), api.OK)
	c := api.Command{Kind: 1, Flags: 255, Delay: 1000000, Next: 1<<64 - 1}
	end := api.Command{Kind: 3, Flags: 255, Delay: 1000000}
	if got := peel(t, p, []api.Command{c, c, c, c, end}, edge...); !slices.Equal(got, body) {
		t.Errorf("the payload behind one hop several times is %x", got)
	}
}

// call is what Build gets.
type call struct {
	x    []byte
	last api.Command
	body []byte
	hops []dir.Hop
}

// fine returns a call without an error.
func fine(t *testing.T) call {
	t.Helper()
	return call{x: mixed(102), last: api.Command{Kind: 2}, body: many(3, 480), hops: route(t, 2)}
}

// spoilers returns changes, each of which makes a call wrong.
func spoilers(t *testing.T) []func(c *call) {
	t.Helper()
	list := []func(c *call){
		func(c *call) { c.last.Kind = 0 },
		func(c *call) { c.last.Kind, c.last.Next = 1, 1 },
		func(c *call) { c.last.Kind = 5 },
		func(c *call) { c.last.Next = 1 },
		func(c *call) { c.last.Mark[15] = 1 },
		func(c *call) { c.x = c.x[:31] },
		func(c *call) { c.x = append(c.x, 0) },
		func(c *call) { c.x = nil },
		func(c *call) { c.body = c.body[:479] },
		func(c *call) { c.body = append(c.body, 0) },
		func(c *call) { c.body = nil },
		func(c *call) { c.hops = nil },
		func(c *call) { c.hops = slices.Repeat(c.hops, 3) },
	}
	on := func(i int, change func(h *dir.Hop)) {
		list = append(list, func(c *call) {
			if i < len(c.hops) {
				change(&c.hops[i])
			}
		})
	}
	on(0, func(h *dir.Hop) { h.Delay = -1 })
	on(1, func(h *dir.Hop) { h.Delay = 1000001 })
	on(0, func(h *dir.Hop) { h.Flags = 256 })
	on(1, func(h *dir.Hop) { h.Flags = -1 })
	on(0, func(h *dir.Hop) { h.Pub = [32]byte{} })
	on(1, func(h *dir.Hop) { h.Pub = [32]byte{} })
	on(0, func(h *dir.Hop) { h.Id = 0 }) // the only one that is right
	on(1, func(h *dir.Hop) { h.Id = 0 })
	return list
}

// wrong returns the least error that the document has for a call.
func wrong(c call) api.Errno {
	var errs []api.Errno
	note := func(bad bool, e api.Errno) {
		if bad {
			errs = append(errs, e)
		}
	}
	note(c.last.Kind < 2 || c.last.Kind > 4, api.ErrArg)
	note(c.last.Next != 0 || c.last.Kind != 4 && c.last.Mark != [16]byte{}, api.ErrForm)
	note(len(c.x) != 32 || len(c.body) != 480 || len(c.hops) == 0 || len(c.hops) > 5, api.ErrSize)
	for i, h := range c.hops {
		note(h.Delay < 0 || h.Delay > 1000000 || h.Flags < 0 || h.Flags > 255, api.ErrArg)
		note(i > 0 && h.Id == 0, api.ErrForm)
		note(h.Pub == [32]byte{}, api.ErrZero)
	}
	return least(errs...)
}

// judge compares Build of a call with what the document tells.
func judge(t *testing.T, c call) {
	t.Helper()
	var want packet.Packet
	e := wrong(c)
	if e == api.OK {
		want = meant(t, c.x, c.last, c.body, c.hops...)
	}
	p, got := packet.Build(c.x, c.last, c.body, c.hops...)
	is(t, "Build", p, got, want, e)
}

// TestBuildErrors is of P14.2: one, two or three things wrong at once.
func TestBuildErrors(t *testing.T) {
	judge(t, fine(t))
	list := spoilers(t)
	for i := range list {
		for j := range i + 1 {
			for k := range j + 1 {
				c := fine(t)
				list[k](&c)
				list[j](&c)
				list[i](&c)
				judge(t, c)
			}
		}
	}
}

// TestBuildLong is of P14.2: too many hops.
func TestBuildLong(t *testing.T) {
	for _, n := range []int{6, 7, 10, 1 << 16} {
		c := fine(t)
		c.hops = slices.Repeat(c.hops[:1], n)
		judge(t, c)
		c.hops[n-1].Delay = -1
		judge(t, c)
	}
}

// TestBuildExamples is of P14.1 and P14.2: the document's examples.
func TestBuildExamples(t *testing.T) {
	p, e := packet.Parse(make([]byte, 767))
	is(t, "Parse of 767 bytes", p, e, packet.Packet{}, api.ErrSize)
	p, e = packet.Build(mixed(1), api.Command{Kind: 2}, make([]byte, 480))
	is(t, "Build without hops", p, e, packet.Packet{}, api.ErrSize)
	p, e = packet.Build(make([]byte, 31), api.Command{Kind: 1, Next: 1}, make([]byte, 480), hop(t, 0))
	is(t, "Build of a Relay", p, e, packet.Packet{}, api.ErrArg)
}
