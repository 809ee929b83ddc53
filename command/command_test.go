package command

import (
	"encoding/binary"
	"math"
	"slices"
	"testing"

	"shallot/api"
)

// marked is a mark without a zero byte.
func marked() [16]byte {
	var m [16]byte
	for i := range m {
		m[i] = byte(0xf0 + i)
	}
	return m
}

// laid returns the bytes of a command, laid out in the library's way.
func laid(c api.Command, rest uint16) []byte {
	b := []byte{c.Kind, c.Flags}
	b = binary.BigEndian.AppendUint32(b, c.Delay)
	b = binary.BigEndian.AppendUint64(b, c.Next)
	b = append(b, c.Mark[:]...)
	return binary.BigEndian.AppendUint16(b, rest)
}

// wrong returns the error of a command as the document tells it: each one that applies, the least first.
func wrong(c api.Command) api.Errno {
	var all []api.Errno
	if c.Delay > 1000000 {
		all = append(all, api.ErrBound)
	}
	if c.Kind != 1 && c.Next != 0 || c.Kind == 1 && c.Next == 0 || c.Kind != 4 && c.Mark != [16]byte{} {
		all = append(all, api.ErrForm)
	}
	if c.Kind < 1 || c.Kind > 4 {
		all = append(all, api.ErrArg)
	}
	if len(all) == 0 {
		return api.OK
	}
	return slices.Min(all)
}

// commands returns commands of all kinds with everything that may be right or wrong about them.
func commands() []api.Command {
	first, last := [16]byte{1}, [16]byte{15: 0x80}
	var list []api.Command
	for _, kind := range []byte{0, 1, 2, 3, 4, 5, 6, 127, 128, 129, 130, 131, 132, 255} {
		for _, flags := range []byte{0, 1, 7, 255} {
			for _, delay := range []uint32{0, 1, 258, 999999, 1000000, 1000001, 1 << 24, math.MaxUint32} {
				for _, next := range []uint64{0, 1, 5, 1 << 32, 0x0102030405060708, math.MaxUint64} {
					for _, mark := range [][16]byte{{}, first, last, marked()} {
						list = append(list, api.Command{Kind: kind, Flags: flags, Delay: delay, Next: next, Mark: mark})
					}
				}
			}
		}
	}
	return list
}

// encodes compares what Check and Encode return.
func encodes(t *testing.T, c api.Command, want []byte, err api.Errno) {
	t.Helper()
	if e := Check(c); e != err {
		t.Fatalf("Check(%v) = %v, not %v", c, e, err)
	}
	if got, e := Encode(c); e != err || !slices.Equal(got, want) {
		t.Fatalf("Encode(%v) = %v, %v, not %v, %v", c, got, e, want, err)
	}
}

// decodes compares what Decode returns.
func decodes(t *testing.T, b []byte, want api.Command, err api.Errno) {
	t.Helper()
	if got, e := Decode(b); e != err || got != want {
		t.Fatalf("Decode(%v) = %v, %v, not %v, %v", b, got, e, want, err)
	}
}

// TestEncodeExamples is of P10.1: the document's examples.
func TestEncodeExamples(t *testing.T) {
	want := append([]byte{1, 7, 0, 0, 1, 2, 0, 0, 0, 0, 0, 0, 0, 5}, make([]byte, 18)...)
	encodes(t, api.Command{Kind: api.Relay, Flags: 7, Delay: 258, Next: 5}, want, api.OK)
	encodes(t, api.Command{Kind: api.Relay}, nil, api.ErrForm)
	encodes(t, api.Command{Kind: 5, Next: 1}, nil, api.ErrArg)
	encodes(t, api.Command{Kind: api.Deliver, Delay: 1000001}, nil, api.ErrBound)
	encodes(t, api.Command{Kind: api.Cover, Mark: [16]byte{5: 1}}, nil, api.ErrForm)
}

// TestEncode is of P10.1: all that may be right or wrong, alone and together.
func TestEncode(t *testing.T) {
	good := 0
	for _, c := range commands() {
		if e := wrong(c); e != api.OK {
			encodes(t, c, nil, e)
			continue
		}
		good++
		encodes(t, c, laid(c, 0), api.OK)
	}
	if good != 4*5*(5+1+1+4) {
		t.Errorf("%d commands are well-formed", good)
	}
}

// TestCheckKinds is of P10.1: every kind and all flags.
func TestCheckKinds(t *testing.T) {
	for kind := range 256 {
		for flags := range 256 {
			c := api.Command{Kind: byte(kind), Flags: byte(flags)}
			if kind == 1 {
				c.Next = 9
			}
			if kind < 1 || kind > 4 {
				encodes(t, c, nil, api.ErrArg)
			} else {
				encodes(t, c, laid(c, 0), api.OK)
			}
		}
	}
}

// TestCheckMarks is of P10.1: each byte of the mark counts, but for a reply.
func TestCheckMarks(t *testing.T) {
	for i := range 16 {
		for _, b := range []byte{1, 0x10, 0x80, 255} {
			for kind := byte(1); kind <= 4; kind++ {
				c := api.Command{Kind: kind}
				if kind == 1 {
					c.Next = 1
				}
				c.Mark[i] = b
				if kind == 4 {
					encodes(t, c, laid(c, 0), api.OK)
				} else {
					encodes(t, c, nil, api.ErrForm)
				}
			}
		}
	}
}

// TestDecodeExamples is of P10.2: the document's examples.
func TestDecodeExamples(t *testing.T) {
	b := make([]byte, 32)
	decodes(t, b, api.Command{}, api.ErrArg)
	decodes(t, b[:31], api.Command{}, api.ErrSize)
	b[0] = 2
	decodes(t, b, api.Command{Kind: api.Deliver}, api.OK)
	b[31] = 1
	decodes(t, b, api.Command{}, api.ErrForm)
}

// TestDecode is of P10.2: it reverses Encode, and has its errors.
func TestDecode(t *testing.T) {
	for _, c := range commands() {
		if e := wrong(c); e != api.OK {
			decodes(t, laid(c, 0), api.Command{}, e)
			continue
		}
		b, e := Encode(c)
		if e != api.OK {
			t.Errorf("Encode(%v): %v", c, e)
		}
		decodes(t, b, c, api.OK)
	}
}

// TestDecodeRest is of P10.2: the last two bytes count, after the kind and ahead of the delay.
func TestDecodeRest(t *testing.T) {
	for _, c := range commands() {
		for _, rest := range []uint16{1, 0x80, 0xff, 0x100, 0x8000, 0xff00, 0xffff} {
			want := api.ErrForm
			if wrong(c) == api.ErrArg {
				want = api.ErrArg
			}
			decodes(t, laid(c, rest), api.Command{}, want)
		}
	}
}

// TestDecodeSizes is of P10.2: no other length, whatever the bytes are.
func TestDecodeSizes(t *testing.T) {
	good := laid(api.Command{Kind: 4, Mark: marked()}, 0)
	for n := range 100 {
		for _, b := range [][]byte{make([]byte, n), slices.Repeat([]byte{2}, n), slices.Repeat([]byte{255}, n), append(slices.Clone(good), make([]byte, 100)...)[:n]} {
			if n != 32 {
				decodes(t, b, api.Command{}, api.ErrSize)
			}
		}
	}
	decodes(t, nil, api.Command{}, api.ErrSize)
	decodes(t, slices.Repeat(good, 2), api.Command{}, api.ErrSize)
	decodes(t, good, api.Command{Kind: 4, Mark: marked()}, api.OK)
}

// TestDecodeBytes is of P10.2: any byte in any place, and what decodes is encoded as it was.
func TestDecodeBytes(t *testing.T) {
	for _, from := range []api.Command{{Kind: 1, Next: 1}, {Kind: 1, Flags: 9, Delay: 1000000, Next: 1 << 40}, {Kind: 2}, {Kind: 3, Delay: 70000}, {Kind: 4, Mark: marked()}} {
		for i := range 32 {
			for x := range 256 {
				b := laid(from, 0)
				b[i] = byte(x)
				c := api.Command{Kind: b[0], Flags: b[1], Delay: binary.BigEndian.Uint32(b[2:]), Next: binary.BigEndian.Uint64(b[6:]), Mark: [16]byte(b[14:30])}
				e := wrong(c)
				if i >= 30 && x != 0 {
					e = api.ErrForm
				}
				if e != api.OK {
					decodes(t, b, api.Command{}, e)
					continue
				}
				decodes(t, b, c, api.OK)
				encodes(t, c, b, api.OK)
			}
		}
	}
}
