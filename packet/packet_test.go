package packet_test

import (
	"crypto/ecdh"
	"crypto/sha256"
	"encoding/hex"
	"math"
	"slices"
	"testing"

	"shallot/api"
	"shallot/dir"
	"shallot/header"
	"shallot/keys"
	"shallot/packet"
)

// mixed returns 32 bytes that hang on n.
func mixed(n int) []byte {
	b := sha256.Sum256([]byte{byte(n), byte(n >> 8)})
	return b[:]
}

// many returns n bytes that hang on seed.
func many(seed, n int) []byte {
	var b []byte
	for i := 0; len(b) < n; i++ {
		b = append(b, mixed(1000*seed+i)...)
	}
	return b[:n:n]
}

// sum returns the digits of the library's hash.
func sum(p packet.Packet) string {
	s := sha256.Sum256(p.Bytes())
	return hex.EncodeToString(s[:])
}

// least returns the least of the errors, apart from what the package has for that.
func least(errs ...api.Errno) api.Errno {
	errs = slices.DeleteFunc(errs, func(e api.Errno) bool { return e == api.OK })
	if len(errs) == 0 {
		return api.OK
	}
	return slices.Min(errs)
}

// hop returns the hop number i of the tests' routes.
func hop(t *testing.T, i int) dir.Hop {
	t.Helper()
	key, err := ecdh.X25519().NewPrivateKey(mixed(i))
	if err != nil {
		t.Fatal(err)
	}
	n := api.Node{Name: "n", Id: uint64(i) + 1, Priv: [32]byte(mixed(i)), Pub: [32]byte(key.PublicKey().Bytes())}
	return dir.Hop{Node: dir.Node{Node: n}, Delay: 10 * i, Flags: i}
}

// route returns n hops.
func route(t *testing.T, n int) []dir.Hop {
	t.Helper()
	var hops []dir.Hop
	for i := range n {
		hops = append(hops, hop(t, i))
	}
	return hops
}

// is compares a packet and an error with those that are wanted.
func is(t *testing.T, what string, p packet.Packet, e api.Errno, want packet.Packet, wantE api.Errno) {
	t.Helper()
	if p != want || e != wantE {
		t.Errorf("%s = %x, %v, not %x, %v", what, p.Bytes(), e, want.Bytes(), wantE)
	}
}

// TestParse is of P14.1: where each byte belongs, and back.
func TestParse(t *testing.T) {
	for seed := range 5 {
		b := many(seed, 768)
		h := header.Header{Alpha: [32]byte(b[:32]), Tag: [16]byte(b[32:48]), Beta: [240]byte(b[48:288])}
		want := packet.Packet{Header: h, Body: [480]byte(b[288:])}
		p, e := packet.Parse(b)
		is(t, "Parse", p, e, want, api.OK)
		if got := want.Bytes(); !slices.Equal(got, b) {
			t.Errorf("Bytes = %x, not %x", got, b)
		}
		if got := want.Header.Bytes(); !slices.Equal(got, b[:288]) {
			t.Errorf("Bytes of the header = %x, not %x", got, b[:288])
		}
	}
	p, e := packet.Parse(make([]byte, 768))
	is(t, "Parse of zero bytes", p, e, packet.Packet{}, api.OK)
	if b := (packet.Packet{}).Bytes(); !slices.Equal(b, make([]byte, 768)) {
		t.Errorf("Bytes of the zero Packet = %x", b)
	}
}

// TestParseSizes is of P14.1: every other length.
func TestParseSizes(t *testing.T) {
	for n := range 1600 {
		if p, e := packet.Parse(many(6, n)); n != 768 {
			is(t, "Parse of another length", p, e, packet.Packet{}, api.ErrSize)
		}
	}
	p, e := packet.Parse(nil)
	is(t, "Parse(nil)", p, e, packet.Packet{}, api.ErrSize)
}

// TestPromoted is of P14.1: the fields and methods of the header are those of the packet.
func TestPromoted(t *testing.T) {
	hops := route(t, 3)
	steps, _ := keys.Schedule(mixed(100), dir.Publics(hops...)...)
	p, e := packet.Build(mixed(100), api.Command{Kind: 2}, many(1, 480), hops...)
	if e != api.OK {
		t.Fatalf("Build: %v", e)
	}
	if p.Alpha != p.Header.Alpha || p.Tag != p.Header.Tag || p.Beta != p.Header.Beta {
		t.Errorf("the fields of %x", p.Bytes())
	}
	if !p.Fits(steps[0]) || p.Fits(steps[1]) {
		t.Errorf("Fits = %v, %v", p.Fits(steps[0]), p.Fits(steps[1]))
	}
	c, next, e := p.Open(steps[0])
	if c != (api.Command{Kind: 1, Next: 2}) || next.Alpha != steps[1].Alpha || !next.Fits(steps[1]) || e != api.OK {
		t.Errorf("Open = %v, %x, %v", c, next.Bytes(), e)
	}
	p.Tag[0] ^= 1
	if c, next, e := p.Open(steps[0]); c != (api.Command{}) || next != (header.Header{}) || e != api.ErrMac {
		t.Errorf("Open of a changed packet = %v, %x, %v", c, next.Bytes(), e)
	}
	p.Tag[0] ^= 1
	p.Body[7] ^= 1 // no part of what the tag is made of
	if !p.Fits(steps[0]) {
		t.Errorf("the header hangs on the payload")
	}
}

// TestLeast is of P14.5.
func TestLeast(t *testing.T) {
	for _, c := range []struct {
		list []api.Errno
		want api.Errno
	}{
		{nil, api.OK},
		{[]api.Errno{api.OK}, api.OK},
		{[]api.Errno{api.OK, api.OK, api.OK}, api.OK},
		{[]api.Errno{api.ErrMac}, api.ErrMac},
		{[]api.Errno{api.OK, api.ErrForm, api.ErrSize}, api.ErrSize},
		{[]api.Errno{api.ErrSize, api.ErrForm, api.OK}, api.ErrSize},
		{[]api.Errno{api.ErrForm, api.OK, api.ErrSize, api.OK, api.ErrForm}, api.ErrSize},
		{[]api.Errno{api.ErrOnce, api.ErrOnce}, api.ErrOnce},
		{[]api.Errno{api.ErrOnce, api.ErrBound, api.ErrName, api.ErrZero}, api.ErrName},
		{[]api.Errno{api.ErrArg, api.OK}, api.ErrArg},
		{[]api.Errno{1000, 0, 999}, 999},
		{[]api.Errno{1, -1, 0}, -1},
		{[]api.Errno{math.MaxInt, math.MinInt, 0, -7}, math.MinInt},
		{[]api.Errno{math.MaxInt, 0}, math.MaxInt},
	} {
		if got := packet.Least(c.list...); got != c.want {
			t.Errorf("Least(%v) = %v, not %v", c.list, got, c.want)
		}
	}
	if got := packet.Least(); got != api.OK {
		t.Errorf("Least() = %v", got)
	}
}

// TestLeastOfAll is of P14.5: all lists of three of the errors, in any order.
func TestLeastOfAll(t *testing.T) {
	for a := api.OK; a <= api.ErrOnce; a++ {
		for b := api.OK; b <= api.ErrOnce; b++ {
			for c := api.OK; c <= api.ErrOnce; c++ {
				if got := packet.Least(a, b, c); got != least(a, b, c) {
					t.Errorf("Least(%v, %v, %v) = %v", a, b, c, got)
				}
			}
		}
	}
}
