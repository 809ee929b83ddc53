package header_test

import (
	"slices"
	"testing"

	"shallot/api"
	"shallot/header"
	"shallot/keys"
)

// spoil overwrites a list, its spare capacity too.
func spoil[T any](list []T, with T) {
	for i := range list[:cap(list)] {
		list[:cap(list)][i] = with
	}
}

// TestMemoryOfArguments is of P13.6: bytes, commands and steps stay as they are, behind the ends of the lists too.
func TestMemoryOfArguments(t *testing.T) {
	b, steps := many(1, 600), stepsOf(7)
	cmds := slices.Concat(path(1, 2), path(2, 3), path(3, 4), path(1, 2))
	wasB, wasCmds, wasSteps := slices.Clone(b), slices.Clone(cmds), slices.Clone(steps)
	header.Parse(b[:288])
	header.Parse(b[:287])
	for n := range 7 {
		header.Filler(steps[:n]...)
		header.Build(cmds[:n], steps[:n]...)
		header.Build(cmds[:n], steps[:6-n]...)
	}
	build(t, cmds[:1], steps[:1]...)
	build(t, cmds[1:3], steps[:2]...)
	h := build(t, cmds[3:6], steps[:3]...)
	was := h
	h.Bytes()
	h.Fits(steps[0])
	h.Open(steps[0])
	h.Open(steps[1])
	if !slices.Equal(b, wasB) || !slices.Equal(cmds, wasCmds) || !slices.Equal(steps, wasSteps) || h != was {
		t.Errorf("the bytes were changed to %x, the commands to %v, the steps to %x, the header to %x", b, cmds, steps, h)
	}
}

// TestMemoryOfBytes is of P13.6: a header does not hang on its bytes, nor these on it, nor on those of another call.
func TestMemoryOfBytes(t *testing.T) {
	b := many(2, 288)
	h, _ := header.Parse(b)
	was := h
	spoil(b, 0xa5)
	one, two := h.Bytes(), h.Bytes()
	spoil(one, 0x5a)
	if h != was || !slices.Equal(two, many(2, 288)) || !slices.Equal(h.Bytes(), many(2, 288)) {
		t.Errorf("the header was changed to %x, its bytes to %x", h, two)
	}
}

// TestMemoryOfFiller is of P13.6: a filler is a new list.
func TestMemoryOfFiller(t *testing.T) {
	for n := 1; n <= 5; n++ {
		steps := stepsOf(n)
		one, _ := header.Filler(steps...)
		two, _ := header.Filler(steps...)
		spoil(one, 0xa5)
		if !slices.Equal(steps, stepsOf(n)) {
			t.Errorf("the steps were changed to %x", steps)
		}
		spoil(steps, keys.Step{})
		if !slices.Equal(two, filling(stepsOf(n))) {
			t.Errorf("the filler was changed to %x", two)
		}
	}
}

// TestMemoryOfBuild is of P13.6: a header does not hang on commands and steps any more, and the same call makes the same one.
func TestMemoryOfBuild(t *testing.T) {
	cmds, steps := path(4, 4), stepsOf(4)
	h := build(t, cmds, steps...)
	c, next, e := h.Open(steps[0])
	if e != api.OK {
		t.Fatalf("Open: %v", e)
	}
	wasC, wasNext := c, next
	spoil(cmds, api.Command{Kind: 77})
	spoil(steps, keys.Step{})
	if h != build(t, path(4, 4), stepsOf(4)...) || c != wasC || next != wasNext {
		t.Errorf("the header was changed to %x, the next one to %x, the command to %v", h, next, c)
	}
	opens(t, h, step(0), wasC, wasNext, api.OK)
}
