package chacha

import (
	"slices"
	"testing"

	"shallot/api"
)

// spoil overwrites a list, its spare capacity too.
func spoil(b []byte) {
	for i := range b[:cap(b)] {
		b[:cap(b)][i] ^= 0xff
	}
}

// TestMemoryOfArguments is of P4.5: bytes stay as they are, those in the spare capacity too.
func TestMemoryOfArguments(t *testing.T) {
	b := some(300)
	before := slices.Clone(b)
	key, nonce, part := b[:32], b[50:62], b[100:170]
	var results [][]byte
	keep := func(got []byte, e api.Errno) {
		if e != api.OK {
			t.Errorf("an error: %v", e)
		}
		results = append(results, got)
	}
	keep(Block(key, nonce, 7))
	keep(Stream(key, 70))
	keep(Turn(key, part))
	keep(Turn(key, part, part))
	f, _ := New(key)
	keep(f.Next(10))
	keep(f.Turn(part))
	keep(f.Turn(part[:0], part))
	c, _ := Count(key)
	keep(c.Next(10))
	keep(c.Turn(part, part))
	for _, r := range results {
		spoil(r)
	}
	if !slices.Equal(b, before) {
		t.Errorf("an argument was changed, or shares memory with a result")
	}
	parts := [][]byte{{1}, {2}, {3}}[:2]
	Turn(key, parts...)
	f.Turn(parts...)
	c.Turn(parts...)
	for i, p := range parts[:3] {
		if !slices.Equal(p, []byte{byte(i + 1)}) {
			t.Errorf("the parts were changed to %v", parts[:3])
		}
	}
}

// TestMemoryOfFlow is of P4.5: a flow keeps its key as it was; what it has returned is no longer its own.
func TestMemoryOfFlow(t *testing.T) {
	key := some(32)
	all := whole(t, key)
	f, _ := New(key)
	c, _ := Count(key)
	spoil(key)
	for at := 0; at < 200; at += 20 {
		got, e := f.Next(20)
		if e != api.OK || !slices.Equal(got, all[at:at+20]) {
			t.Errorf("Next(20) behind %d bytes = %x, %v", at, got, e)
		}
		spoil(got)
		if got, e = c.Turn(make([]byte, 20)); e != api.OK || !slices.Equal(got, all[at:at+20]) {
			t.Errorf("Turn behind %d bytes = %x, %v", at, got, e)
		}
		spoil(got)
	}
}

// TestMemoryOfCopies is of P4.5: a copy and its original go on by themselves, within a block and between blocks.
func TestMemoryOfCopies(t *testing.T) {
	key := counting()
	all := whole(t, key)
	for _, n := range []int{0, 1, 63, 64, 65} {
		f := begin32(t, key)
		gives(t, "ahead", f, all[:n])
		twin := *f
		gives(t, "copy", &twin, all[n:n+100])
		gives(t, "beside a copy", f, all[n:n+30])
		turns(t, "copy", &twin, all[n+100:n+170])
		turns(t, "beside a copy", f, all[n+30:n+170])
	}
	c, _ := Count(key)
	c.Next(5)
	twin := *c
	c.Next(5)
	if got, e := twin.Next(6); e != api.OK || !slices.Equal(got, all[5:11]) || twin.Calls != 2 || c.Calls != 2 {
		t.Errorf("a copy of a Counted: %x, %v, %d and %d calls", got, e, twin.Calls, c.Calls)
	}
}

// TestMemoryOfResults is of P4.5: results are new each time.
func TestMemoryOfResults(t *testing.T) {
	key := counting()
	for name, call := range map[string]func() ([]byte, api.Errno){
		"Block":  func() ([]byte, api.Errno) { return Block(key, make([]byte, 12), 3) },
		"Stream": func() ([]byte, api.Errno) { return Stream(key, 100) },
		"Turn":   func() ([]byte, api.Errno) { return Turn(key, some(100)) },
	} {
		got, _ := call()
		want := slices.Clone(got)
		spoil(got)
		if again, e := call(); e != api.OK || !slices.Equal(again, want) {
			t.Errorf("%s after its result was overwritten: %x, %v", name, again, e)
		}
	}
	if begin32(t, key) == begin32(t, key) {
		t.Errorf("two calls of New return the same flow")
	}
}
