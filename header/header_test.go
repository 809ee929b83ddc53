package header_test

import (
	"crypto/ecdh"
	"crypto/hmac"
	"crypto/sha256"
	"encoding/binary"
	"slices"
	"testing"

	"shallot/api"
	"shallot/chacha"
	"shallot/header"
	"shallot/keys"
)

// mixed returns 32 bytes that hang on n.
func mixed(n int) [32]byte { return sha256.Sum256([]byte{byte(n), byte(n >> 8)}) }

// many returns n bytes that hang on seed.
func many(seed, n int) []byte {
	var b []byte
	for i := 0; len(b) < n; i++ {
		next := mixed(1000*seed + i)
		b = append(b, next[:]...)
	}
	return b[:n:n]
}

// step returns a step whose fields have nothing to do with each other, nor with those of another step.
func step(n int) keys.Step {
	k := api.Keys{Mac: mixed(6 * n), Stream: mixed(6*n + 1), Pay: mixed(6*n + 2), Blind: mixed(6*n + 3)}
	return keys.Step{Keys: k, Alpha: mixed(6*n + 4), Secret: mixed(6*n + 5)}
}

// stepsOf returns n such steps.
func stepsOf(n int) []keys.Step {
	var list []keys.Step
	for i := range n {
		list = append(list, step(i))
	}
	return list
}

// marked returns a mark without zero bytes.
func marked() [16]byte {
	var m [16]byte
	for i := range m {
		m[i] = byte(0xa0 + i)
	}
	return m
}

// laid returns the bytes of a command with these two behind it.
func laid(c api.Command, rest uint16) []byte {
	b := []byte{c.Kind, c.Flags}
	b = binary.BigEndian.AppendUint32(b, c.Delay)
	b = binary.BigEndian.AppendUint64(b, c.Next)
	b = append(b, c.Mark[:]...)
	return binary.BigEndian.AppendUint16(b, rest)
}

// stream returns the first 288 bytes of a step's stream.
func stream(s keys.Step) []byte {
	b, _ := chacha.Stream(s.Stream[:], 288)
	return b
}

// turned returns b with each byte xored with that of mask.
func turned(b, mask []byte) []byte {
	out := slices.Clone(b)
	for i := range out {
		out[i] ^= mask[i]
	}
	return out
}

// short returns the library's short tag.
func short(key [32]byte, parts ...[]byte) [16]byte {
	m := hmac.New(sha256.New, key[:])
	for _, p := range parts {
		m.Write(p)
	}
	return [16]byte(m.Sum(nil))
}

// closed returns the header with this public value that opens to 240 bytes.
func closed(s keys.Step, alpha [32]byte, plain []byte) header.Header {
	h := header.Header{Alpha: alpha, Beta: [240]byte(turned(plain, stream(s)))}
	h.Tag = short(s.Mac, h.Alpha[:], h.Beta[:])
	return h
}

// product returns the library's product of a scalar and a point.
func product(t *testing.T, k, u [32]byte) [32]byte {
	t.Helper()
	private, err := ecdh.X25519().NewPrivateKey(k[:])
	if err != nil {
		t.Fatal(err)
	}
	public, err := ecdh.X25519().NewPublicKey(u[:])
	if err != nil {
		t.Fatal(err)
	}
	out, err := private.ECDH(public)
	if err != nil {
		t.Fatalf("%x times %x: %v", k, u, err)
	}
	return [32]byte(out)
}

// opens compares what Open returns.
func opens(t *testing.T, h header.Header, s keys.Step, c api.Command, next header.Header, e api.Errno) {
	t.Helper()
	if gotC, gotNext, gotE := h.Open(s); gotC != c || gotNext != next || gotE != e {
		t.Errorf("Open of %x = %v, %x, %v, not %v, %x, %v", h.Bytes(), gotC, gotNext.Bytes(), gotE, c, next.Bytes(), e)
	}
}

// refuses wants an error of Open, beside which nothing may stand.
func refuses(t *testing.T, h header.Header, s keys.Step, e api.Errno) {
	t.Helper()
	opens(t, h, s, api.Command{}, header.Header{}, e)
}

// TestParse is of P13.1: where each byte belongs, and back.
func TestParse(t *testing.T) {
	for seed := range 5 {
		b := many(seed, 288)
		want := header.Header{Alpha: [32]byte(b[:32]), Tag: [16]byte(b[32:48]), Beta: [240]byte(b[48:])}
		h, e := header.Parse(b)
		if e != api.OK || h != want {
			t.Errorf("Parse(%x) = %x, %v", b, h, e)
		}
		if got := want.Bytes(); !slices.Equal(got, b) {
			t.Errorf("Bytes of %x = %x", want, got)
		}
	}
	if h, e := header.Parse(make([]byte, 288)); e != api.OK || h != (header.Header{}) {
		t.Errorf("Parse of zero bytes = %x, %v", h, e)
	}
	if b := (header.Header{}).Bytes(); !slices.Equal(b, make([]byte, 288)) {
		t.Errorf("Bytes of the zero Header = %x", b)
	}
}

// TestParseSizes is of P13.1: every other length.
func TestParseSizes(t *testing.T) {
	for n := range 800 {
		h, e := header.Parse(many(7, n))
		if n == 288 && e != api.OK || n != 288 && (e != api.ErrSize || h != header.Header{}) {
			t.Errorf("Parse of %d bytes = %x, %v", n, h, e)
		}
	}
	if h, e := header.Parse(nil); e != api.ErrSize || h != (header.Header{}) {
		t.Errorf("Parse(nil) = %x, %v", h, e)
	}
}

// TestFits is of P13.2: the tag hangs on the step's Mac and on the header's own Alpha and Beta, and on nothing else of the step.
func TestFits(t *testing.T) {
	for n := range 20 {
		s := step(n)
		h := header.Header{Alpha: mixed(500 + n), Beta: [240]byte(many(n, 240))}
		h.Tag = short(s.Mac, h.Alpha[:], h.Beta[:])
		if !h.Fits(s) || !h.Fits(keys.Step{Keys: api.Keys{Mac: s.Mac}}) {
			t.Errorf("%x does not fit %x", h, s.Mac)
		}
		other := s
		other.Mac = step(n + 1).Mac
		if h.Fits(other) {
			t.Errorf("%x fits %x", h, other.Mac)
		}
		h.Tag = short(s.Mac, s.Alpha[:], h.Beta[:])
		if h.Fits(s) {
			t.Errorf("%x fits by the Alpha of the step", h)
		}
	}
	if (header.Header{}).Fits(keys.Step{}) {
		t.Errorf("the zero Header fits the zero Step")
	}
}

// TestFitsChanged is of P13.5 and P13.2: every bit of the header counts, and what does not fit is not opened.
func TestFitsChanged(t *testing.T) {
	s := step(1)
	for _, c := range []api.Command{{Kind: 1, Next: 7}, {Kind: 2}, {Kind: 77}} {
		b := closed(s, s.Alpha, slices.Concat(laid(c, 0), many(3, 208))).Bytes()
		for at := range b {
			for _, change := range []byte{1, 2, 4, 8, 16, 32, 64, 128, 255} {
				b[at] ^= change
				h, _ := header.Parse(b)
				if h.Fits(s) {
					t.Errorf("a header fits with the byte %d changed by %d", at, change)
				}
				refuses(t, h, s, api.ErrMac)
				b[at] ^= change
			}
		}
		if h, _ := header.Parse(b); !h.Fits(s) {
			t.Errorf("the header itself does not fit")
		}
	}
}

// TestOpenRelay is of P13.2: the next header is made of the step's Alpha, the opened bytes, and the stream behind them.
func TestOpenRelay(t *testing.T) {
	for n := range 10 {
		s := step(n)
		c := api.Command{Kind: 1, Flags: byte(n), Delay: uint32(n) * 111111, Next: 1 << (7 * n)}
		plain := slices.Concat(laid(c, 0), many(n, 208))
		want := header.Header{
			Alpha: product(t, s.Blind, s.Alpha),
			Tag:   [16]byte(plain[32:48]),
			Beta:  [240]byte(slices.Concat(plain[48:], stream(s)[240:])),
		}
		opens(t, closed(s, s.Alpha, plain), s, c, want, api.OK)
		opens(t, closed(s, mixed(300+n), plain), s, c, want, api.OK)
		opens(t, closed(s, [32]byte{}, plain), s, c, want, api.OK)
	}
}

// TestOpenLast is of P13.2: behind the other kinds there is nothing, whatever the rest of the bytes is.
func TestOpenLast(t *testing.T) {
	for n, c := range []api.Command{
		{Kind: 2}, {Kind: 3}, {Kind: 4},
		{Kind: 2, Flags: 255, Delay: 1000000}, {Kind: 3, Flags: 1, Delay: 1}, {Kind: 4, Flags: 9, Delay: 258, Mark: marked()},
	} {
		s := step(n)
		for _, rest := range [][]byte{make([]byte, 208), many(n, 208)} {
			opens(t, closed(s, s.Alpha, slices.Concat(laid(c, 0), rest)), s, c, header.Header{}, api.OK)
		}
		s.Alpha, s.Blind = [32]byte{}, [32]byte{} // which are of no use here
		opens(t, closed(s, mixed(n), slices.Concat(laid(c, 0), many(n, 208))), s, c, header.Header{}, api.OK)
	}
}

// wrongSlots returns commands that Decode refuses, for each of its reasons.
func wrongSlots() [][]byte {
	return [][]byte{
		make([]byte, 32),
		slices.Repeat([]byte{255}, 32),
		laid(api.Command{Kind: 5}, 0),
		laid(api.Command{Kind: 5, Next: 1, Delay: 1000001}, 1),
		laid(api.Command{Kind: 1}, 0),
		laid(api.Command{Kind: 1, Next: 1, Mark: marked()}, 0),
		laid(api.Command{Kind: 2, Next: 1}, 0),
		laid(api.Command{Kind: 3, Mark: marked()}, 0),
		laid(api.Command{Kind: 4, Next: 9, Mark: marked()}, 0),
		laid(api.Command{Kind: 1, Next: 1, Delay: 1000001}, 0),
		laid(api.Command{Kind: 2, Delay: 1000001}, 0),
		laid(api.Command{Kind: 4, Delay: 1<<32 - 1, Mark: marked()}, 0),
		laid(api.Command{Kind: 1, Next: 1}, 1),
		laid(api.Command{Kind: 2}, 256),
		laid(api.Command{Kind: 2, Delay: 1000001}, 1),
	}
}

// TestOpenForm is of P13.2: whatever Decode says is ErrForm, also where the step would make ErrZero.
func TestOpenForm(t *testing.T) {
	for n, slot := range wrongSlots() {
		s := step(n)
		plain := slices.Concat(slot, many(n, 208))
		refuses(t, closed(s, s.Alpha, plain), s, api.ErrForm)
		s.Alpha = [32]byte{}
		refuses(t, closed(s, s.Alpha, plain), s, api.ErrForm)
	}
}

// TestOpenZero is of P13.2: a Relay whose next public value would be zero.
func TestOpenZero(t *testing.T) {
	c := api.Command{Kind: 1, Flags: 3, Delay: 4, Next: 5}
	plain := slices.Concat(laid(c, 0), many(8, 208))
	prime := [32]byte(slices.Repeat([]byte{0xff}, 32)) // which is 0 as well
	prime[0], prime[31] = 0xed, 0x7f
	for n, low := range [][32]byte{{}, {1}, {31: 0x80}, prime} {
		s := step(n)
		s.Alpha = low
		refuses(t, closed(s, s.Alpha, plain), s, api.ErrZero)
		refuses(t, closed(s, mixed(n), plain), s, api.ErrZero)
	}
	s := step(9) // the header's own Alpha does not matter
	if _, _, e := closed(s, [32]byte{}, plain).Open(s); e != api.OK {
		t.Errorf("Open of a header with a zero Alpha: %v", e)
	}
}

// TestOpenMac is of P13.2: what does not fit is ErrMac, whatever else is wrong with it.
func TestOpenMac(t *testing.T) {
	refuses(t, header.Header{}, keys.Step{}, api.ErrMac)
	slots := append(wrongSlots(), laid(api.Command{Kind: 1, Next: 1}, 0), laid(api.Command{Kind: 2}, 0))
	for n, slot := range slots {
		s := step(n)
		s.Alpha = [32]byte{}
		h := closed(s, s.Alpha, slices.Concat(slot, many(n, 208)))
		h.Tag[n%16] ^= 1
		refuses(t, h, s, api.ErrMac)
		h.Tag[n%16] ^= 1
		s.Mac[n] ^= 1
		refuses(t, h, s, api.ErrMac)
	}
}
