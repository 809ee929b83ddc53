package frame_test

import (
	"encoding/binary"
	"math"
	"slices"
	"testing"

	"shallot/api"
	"shallot/frame"
)

// some returns n bytes, none of them zero, which differ from piece to piece of a message.
func some(n int) []byte {
	b := make([]byte, n)
	for i := range b {
		b[i] = byte(1 + (i+i/255)%255)
	}
	return b
}

// same compares two parts; a list may be nil or empty.
func same(p, q api.Part) bool {
	return p.Kind == q.Kind && p.Id == q.Id && p.Index == q.Index && p.Count == q.Count && slices.Equal(p.Data, q.Data)
}

// wrong returns the error of a part as the document tells it.
func wrong(p api.Part) api.Errno {
	if p.Kind != 1 && p.Kind != 2 && p.Kind != 3 {
		return api.ErrArg
	}
	if len(p.Data) > 450 {
		return api.ErrSize
	}
	counted := p.Count >= 1 && p.Count <= 16 && p.Index >= 0 && p.Index <= p.Count-1
	alone := p.Kind == 1 || p.Count == 1
	empty := p.Kind != 2 || p.Id == 0 && len(p.Data) == 0
	if !counted || !alone || !empty {
		return api.ErrForm
	}
	return api.OK
}

// laid returns the frame of a part without an error, laid out in the library's way.
func laid(p api.Part) []byte {
	b := make([]byte, 16)
	b = append(b, p.Kind, byte(p.Index), byte(p.Count), 0)
	b = binary.BigEndian.AppendUint64(b, p.Id)
	b = binary.BigEndian.AppendUint16(b, uint16(len(p.Data)))
	b = append(b, p.Data...)
	return append(b, make([]byte, 480-len(b))...)
}

// parts returns parts of all kinds with everything that may be right or wrong about them.
func parts() []api.Part {
	var list []api.Part
	for _, kind := range []byte{0, 1, 2, 3, 4, 128, 129, 255} {
		for _, id := range []uint64{0, 1, 0x0102030405060708, 1 << 63, math.MaxUint64} {
			for _, count := range []int{math.MinInt, -1, 0, 1, 2, 15, 16, 17, 255, 256, 257, math.MaxInt} {
				for _, index := range []int{math.MinInt, -1, 0, 1, 14, 15, 16, 255, 256, math.MaxInt} {
					for _, size := range []int{0, 1, 255, 256, 449, 450, 451, 1000} {
						list = append(list, api.Part{Kind: kind, Id: id, Index: index, Count: count, Data: some(size)})
					}
				}
			}
		}
	}
	return list
}

// good returns those of the parts that are well-formed.
func good() []api.Part {
	return slices.DeleteFunc(parts(), func(p api.Part) bool { return wrong(p) != api.OK })
}

// frames compares what Check and Frame return.
func frames(t *testing.T, p api.Part, want []byte, err api.Errno) {
	t.Helper()
	if e := frame.Check(p); e != err {
		t.Fatalf("Check(%v) = %v, not %v", p, e, err)
	}
	if b, e := frame.Frame(p); e != err || !slices.Equal(b, want) {
		t.Fatalf("Frame(%v) = %v, %v, not %v, %v", p, b, e, want, err)
	}
}

// parses compares what Parse returns.
func parses(t *testing.T, b []byte, want api.Part, err api.Errno) {
	t.Helper()
	if p, e := frame.Parse(b); e != err || !same(p, want) {
		t.Fatalf("Parse(%v) = %v, %v, not %v, %v", b, p, e, want, err)
	}
}

// TestFrameExamples is of P11.1: the document's examples, and the other places of a frame.
func TestFrameExamples(t *testing.T) {
	want := make([]byte, 480)
	want[16], want[18] = 2, 1
	frames(t, api.Part{Kind: api.Empty, Count: 1}, want, api.OK)
	frames(t, api.Part{Kind: api.Empty}, nil, api.ErrForm)
	frames(t, api.Part{Kind: api.Data, Count: 1, Data: some(451)}, nil, api.ErrSize)

	want = append(make([]byte, 16), 1, 3, 7, 0, 1, 2, 3, 4, 5, 6, 7, 8, 1, 2)
	want = append(append(want, some(258)...), make([]byte, 192)...)
	frames(t, api.Part{Kind: api.Data, Id: 0x0102030405060708, Index: 3, Count: 7, Data: some(258)}, want, api.OK)

	want = append(make([]byte, 16), 3, 0, 1, 0, 0, 0, 0, 0, 0, 0, 0, 9, 1, 194)
	frames(t, api.Part{Kind: api.Back, Id: 9, Count: 1, Data: some(450)}, append(want, some(450)...), api.OK)
}

// TestFrame is of P11.1: all that may be right or wrong, alone and together.
func TestFrame(t *testing.T) {
	right := 0
	for _, p := range parts() {
		if e := wrong(p); e != api.OK {
			frames(t, p, nil, e)
			continue
		}
		right++
		frames(t, p, laid(p), api.OK)
	}
	// Of Data by 5 Ids, 6 sizes and the places in 1, 2, 15 or 16; of Empty one; of Back by 5 Ids and 6 sizes.
	if right != 5*6*(1+2+3+4)+1+5*6 {
		t.Errorf("%d parts are well-formed", right)
	}
}

// TestFrameKinds is of P11.1: every kind.
func TestFrameKinds(t *testing.T) {
	for kind := range 256 {
		p := api.Part{Kind: byte(kind), Count: 1}
		if kind >= 1 && kind <= 3 {
			frames(t, p, laid(p), api.OK)
		} else {
			frames(t, p, nil, api.ErrArg)
		}
	}
}

// TestFramePlaces is of P11.1: every index of every count, and those around them.
func TestFramePlaces(t *testing.T) {
	for count := -2; count <= 20; count++ {
		for index := -2; index <= 20; index++ {
			p := api.Part{Kind: api.Data, Id: 5, Index: index, Count: count, Data: some(3)}
			if count >= 1 && count <= 16 && index >= 0 && index < count {
				frames(t, p, laid(p), api.OK)
			} else {
				frames(t, p, nil, api.ErrForm)
			}
			p.Kind = api.Back
			if count == 1 && index == 0 {
				frames(t, p, laid(p), api.OK)
			} else {
				frames(t, p, nil, api.ErrForm)
			}
		}
	}
}

// TestFrameSizes is of P11.1: data of every length.
func TestFrameSizes(t *testing.T) {
	for n := range 460 {
		for _, kind := range []byte{api.Data, api.Back} {
			p := api.Part{Kind: kind, Id: 1, Count: 1, Data: some(n)}
			if n <= 450 {
				frames(t, p, laid(p), api.OK)
			} else {
				frames(t, p, nil, api.ErrSize)
			}
		}
	}
	frames(t, api.Part{Kind: api.Data, Count: 1, Data: make([]byte, 1<<20)}, nil, api.ErrSize)
	frames(t, api.Part{Kind: api.Data, Count: 1, Data: []byte{}}, laid(api.Part{Kind: api.Data, Count: 1}), api.OK)
}

// TestFrameOrder is of P11.1: of several errors the one with the least number.
func TestFrameOrder(t *testing.T) {
	frames(t, api.Part{}, nil, api.ErrArg)
	frames(t, api.Part{Kind: 4, Index: -1, Data: some(451)}, nil, api.ErrArg)
	frames(t, api.Part{Kind: api.Data, Data: some(451)}, nil, api.ErrSize)
	frames(t, api.Part{Kind: api.Back, Count: 2, Data: some(451)}, nil, api.ErrSize)
	frames(t, api.Part{Kind: api.Empty, Count: 1, Id: 1, Data: some(451)}, nil, api.ErrSize)
	frames(t, api.Part{Kind: api.Empty, Count: 1, Data: some(450)}, nil, api.ErrForm)
	frames(t, api.Part{Kind: api.Empty, Count: 1, Data: make([]byte, 1)}, nil, api.ErrForm)
	frames(t, api.Part{Kind: api.Empty, Count: 1, Id: 1 << 40}, nil, api.ErrForm)
}

// TestParseExamples is of P11.2: the document's examples, and lengths around that of a frame.
func TestParseExamples(t *testing.T) {
	parses(t, make([]byte, 480), api.Part{}, api.ErrArg)
	parses(t, slices.Repeat([]byte{1}, 480), api.Part{}, api.ErrBody)
	for _, n := range []int{0, 1, 16, 30, 479, 481, 768, 960} {
		parses(t, make([]byte, n), api.Part{}, api.ErrSize)
		parses(t, slices.Repeat([]byte{1}, n), api.Part{}, api.ErrSize)
	}
	parses(t, nil, api.Part{}, api.ErrSize)
	whole := laid(api.Part{Kind: api.Data, Count: 1})
	parses(t, whole[:479], api.Part{}, api.ErrSize)
	parses(t, append(whole, 0), api.Part{}, api.ErrSize)
}

// TestParseFrame is of P11.2: each frame gives its part back.
func TestParseFrame(t *testing.T) {
	for _, p := range good() {
		b, e := frame.Frame(p)
		if e != api.OK {
			t.Fatalf("Frame(%v): %v", p, e)
		}
		parses(t, b, p, api.OK)
		parses(t, laid(p), p, api.OK)
	}
}

// meant returns what Parse must return for 480 bytes, as the document tells it.
func meant(b []byte) (api.Part, api.Errno) {
	if !slices.Equal(b[:16], make([]byte, 16)) {
		return api.Part{}, api.ErrBody
	}
	if b[16] < 1 || b[16] > 3 {
		return api.Part{}, api.ErrArg
	}
	size := int(binary.BigEndian.Uint16(b[28:]))
	if size > 450 {
		return api.Part{}, api.ErrForm
	}
	p := api.Part{Kind: b[16], Index: int(b[17]), Count: int(b[18]), Id: binary.BigEndian.Uint64(b[20:]), Data: b[30 : 30+size]}
	if wrong(p) != api.OK || !slices.Equal(laid(p), b) {
		return api.Part{}, api.ErrForm
	}
	return p, api.OK
}

// TestParseChanged is of P11.2: every byte of a frame changed in turn.
func TestParseChanged(t *testing.T) {
	for _, p := range []api.Part{
		{Kind: api.Empty, Count: 1},
		{Kind: api.Back, Id: 3, Count: 1, Data: some(20)},
		{Kind: api.Data, Id: math.MaxUint64, Count: 1},
		{Kind: api.Data, Id: 7, Index: 1, Count: 2, Data: some(5)},
		{Kind: api.Data, Index: 15, Count: 16, Data: make([]byte, 255)},
		{Kind: api.Data, Id: 1, Index: 3, Count: 9, Data: some(450)},
	} {
		b := laid(p)
		for at := range b {
			was := b[at]
			for _, x := range []byte{0, 1, 2, 3, 4, 5, 15, 16, 17, 0x80, 0xc2, 0xc3, 255, was ^ 1, was + 1, was - 1} {
				b[at] = x
				want, e := meant(b)
				parses(t, b, want, e)
			}
			b[at] = was
		}
	}
}

// TestParseRefuses is of P11.2: what is no frame, by one byte or two.
func TestParseRefuses(t *testing.T) {
	for _, c := range []struct {
		p   api.Part
		set map[int]byte
		e   api.Errno
	}{
		{api.Part{Kind: 1, Count: 1, Data: some(450)}, map[int]byte{29: 195}, api.ErrForm},          // a length of 451
		{api.Part{Kind: 1, Count: 1, Data: some(450)}, map[int]byte{28: 255, 29: 255}, api.ErrForm}, // of 65535
		{api.Part{Kind: 2, Count: 1}, map[int]byte{28: 2}, api.ErrForm},                             // of 512, of nothing
		{api.Part{Kind: 1, Count: 1}, map[int]byte{28: 2, 16: 0}, api.ErrArg},
		{api.Part{Kind: 1, Count: 1}, map[int]byte{28: 255, 16: 4}, api.ErrArg},
		{api.Part{Kind: 1, Count: 1}, map[int]byte{28: 2, 16: 0, 0: 1}, api.ErrBody},
		{api.Part{Kind: 1, Count: 1}, map[int]byte{15: 1, 16: 9}, api.ErrBody},
		{api.Part{Kind: 1, Count: 1}, map[int]byte{15: 1, 18: 0}, api.ErrBody},
		{api.Part{Kind: 1, Count: 1}, map[int]byte{19: 1}, api.ErrForm},
		{api.Part{Kind: 1, Count: 1}, map[int]byte{19: 1, 16: 0}, api.ErrArg},
		{api.Part{Kind: 1, Count: 1}, map[int]byte{17: 1}, api.ErrForm},
		{api.Part{Kind: 1, Count: 1}, map[int]byte{18: 0}, api.ErrForm},
		{api.Part{Kind: 1, Count: 16}, map[int]byte{18: 17}, api.ErrForm},
		{api.Part{Kind: 1, Count: 16, Index: 15}, map[int]byte{17: 16}, api.ErrForm},
		{api.Part{Kind: 1, Count: 1}, map[int]byte{479: 1}, api.ErrForm},
		{api.Part{Kind: 1, Count: 1}, map[int]byte{30: 1}, api.ErrForm},
		{api.Part{Kind: 1, Count: 1, Data: some(9)}, map[int]byte{29: 8}, api.ErrForm}, // shorter than what stands there
		{api.Part{Kind: 1, Count: 2}, map[int]byte{16: 2}, api.ErrForm},
		{api.Part{Kind: 1, Count: 2}, map[int]byte{16: 3}, api.ErrForm},
		{api.Part{Kind: 1, Count: 1, Id: 1}, map[int]byte{16: 2}, api.ErrForm},
		{api.Part{Kind: 1, Count: 1, Data: some(1)}, map[int]byte{16: 2}, api.ErrForm},
		{api.Part{Kind: 2, Count: 1}, map[int]byte{29: 1}, api.ErrForm}, // a zero byte as data of nothing
	} {
		b := laid(c.p)
		for at, x := range c.set {
			b[at] = x
		}
		parses(t, b, api.Part{}, c.e)
	}
}
