package frame_test

import (
	"slices"
	"testing"

	"shallot/api"
	"shallot/frame"
)

// spoil overwrites bytes, those in the spare capacity too.
func spoil(b []byte) {
	for i := range b[:cap(b)] {
		b[:cap(b)][i] ^= 0xff
	}
}

// TestMemoryOfArguments is of P11.6: bytes stay as they are, those in the spare capacity too.
func TestMemoryOfArguments(t *testing.T) {
	msg := some(8000)
	was := slices.Clone(msg)
	for _, n := range []int{0, 1, 450, 451, 5000, 7201} {
		frame.Split(7, msg[:n])
		p := api.Part{Kind: 1, Id: 7, Count: 1, Data: msg[:n]}
		frame.Check(p)
		frame.Frame(p)
		frame.Merge(p)
		m := frame.Message{Id: 7}
		m.Take(p)
		m.Bytes()
	}
	if !slices.Equal(msg, was) {
		t.Errorf("the bytes were changed")
	}
	b := append(laid(api.Part{Kind: 1, Id: 7, Count: 2, Data: some(9)}), some(50)...)
	was = slices.Clone(b)
	for _, n := range []int{0, 479, 480, 481} {
		frame.Parse(b[:n])
	}
	if !slices.Equal(b, was) {
		t.Errorf("the frame was changed to %v", b)
	}
}

// TestMemoryOfLists is of P11.6: a list of parts keeps its parts and their order, behind its end too.
func TestMemoryOfLists(t *testing.T) {
	list := split(t, 7, some(2000))
	slices.Reverse(list)
	was := slices.Clone(list)
	m := frame.Message{Id: 7}
	for n := range 6 {
		frame.Merge(list[:n]...)
		m.Take(list[:n]...)
	}
	for i, p := range list {
		if !same(p, was[i]) || !slices.Equal(p.Data, some(2000)[p.Index*450:min(p.Index*450+450, 2000)]) {
			t.Errorf("the part %d was changed to %v", i, p)
		}
	}
}

// TestMemoryOfFrames is of P11.6: a frame and its part share nothing, nor do two calls' results.
func TestMemoryOfFrames(t *testing.T) {
	p := api.Part{Kind: 1, Id: 7, Count: 1, Data: some(20)}
	want := laid(p)
	one, _ := frame.Frame(p)
	two, _ := frame.Frame(p)
	spoil(one)
	spoil(p.Data)
	if !slices.Equal(two, want) {
		t.Errorf("the frame was changed to %v", two)
	}
	first, _ := frame.Parse(two)
	second, _ := frame.Parse(two)
	spoil(first.Data)
	if !slices.Equal(two, want) {
		t.Errorf("the frame was changed to %v", two)
	}
	spoil(two)
	if !slices.Equal(second.Data, some(20)) {
		t.Errorf("the data were changed to %v", second.Data)
	}
}

// TestMemoryOfSplit is of P11.6: the parts share nothing, neither with the message nor with each other.
func TestMemoryOfSplit(t *testing.T) {
	for _, n := range []int{1, 450, 451, 1300, 7200} {
		msg, want := some(n), some(n)
		list := split(t, 7, msg)
		twin := split(t, 7, msg)
		spoil(msg)
		for i, p := range list {
			if !slices.Equal(p.Data, want[i*450:min(i*450+450, n)]) {
				t.Errorf("the part %d of %d bytes was changed", i, n)
			}
			spoil(p.Data)
		}
		clear(list)
		merges(t, want, api.OK, twin...)
	}
}

// TestMemoryOfMerge is of P11.6: a message shares nothing with its parts or with another call's.
func TestMemoryOfMerge(t *testing.T) {
	for _, n := range []int{1, 450, 451, 1300} {
		want := some(n)
		list := split(t, 7, want)
		one, _ := frame.Merge(list...)
		two, _ := frame.Merge(list...)
		spoil(one)
		merges(t, want, api.OK, list...)
		for _, p := range list {
			spoil(p.Data)
		}
		if !slices.Equal(two, want) {
			t.Errorf("the message of %d bytes was changed", n)
		}
	}
}

// TestMemoryOfMessage is of P11.6: a Message keeps neither the lists that it takes nor those that it returns.
func TestMemoryOfMessage(t *testing.T) {
	for _, n := range []int{1, 450, 451, 1300} {
		want := some(n)
		list := split(t, 7, want)
		m := frame.Message{Id: 7}
		takes(t, &m, api.OK, list...)
		for _, p := range list {
			spoil(p.Data)
		}
		clear(list)
		for range 2 {
			b, e := m.Bytes()
			if e != api.OK || !slices.Equal(b, want) {
				t.Errorf("Bytes of %d bytes = %v, %v", n, b, e)
			}
			spoil(b)
		}
	}
}
