package wide

import (
	"slices"
	"testing"

	"shallot/api"
)

// spoil overwrites a list, its spare capacity too.
func spoil(b []byte) {
	for i := range b[:cap(b)] {
		b[:cap(b)][i] ^= 0xff
	}
}

// all are calls of each function, those too that return the block as it is.
func all(t *testing.T, key, block []byte) [][]byte {
	t.Helper()
	var results [][]byte
	keep := func(got []byte, e api.Errno) {
		if e != api.OK {
			t.Errorf("an error: %v", e)
		}
		results = append(results, got)
	}
	keep(Rounds(key, block))
	for n := 1; n <= 4; n++ {
		keep(Rounds(key, block, n))
		keep(Rounds(key, block, n, n))
	}
	keep(Seal(key, block))
	keep(Open(key, block))
	for n := range 3 {
		keep(SealAll(block, slices.Repeat([][]byte{key}, n)...))
		keep(OpenAll(block, slices.Repeat([][]byte{key}, n)...))
	}
	c, _ := New(key)
	keep(c.Seal(block))
	keep(c.Open(block))
	s := Sealed{Cipher: c, Block: block}
	keep(s.Plain())
	keep(s.Seal(block))
	keep(s.Open(block))
	return results
}

// TestMemoryOfArguments is of P7.5: bytes stay as they are, those in the spare capacity too, also when the results are overwritten.
func TestMemoryOfArguments(t *testing.T) {
	for _, size := range []int{32, 33, 70, 4096} {
		b := some(size + 100)
		before := slices.Clone(b)
		for _, r := range all(t, b[10:42], b[50:50+size]) {
			spoil(r)
		}
		if !slices.Equal(b, before) {
			t.Errorf("an argument was changed, or shares memory with a result")
		}
	}
}

// TestMemoryOfResults is of P7.5: results share no memory, and are new each time.
func TestMemoryOfResults(t *testing.T) {
	for _, size := range []int{32, 33, 70} {
		first := all(t, counting(), some(size))
		want := make([][]byte, len(first))
		for i, r := range first {
			want[i] = slices.Clone(r)
		}
		for i, r := range first {
			if !slices.Equal(r, want[i]) {
				t.Errorf("the result %d shares memory with another one", i)
			}
			spoil(r)
		}
		for i, r := range all(t, counting(), some(size)) {
			if !slices.Equal(r, want[i]) {
				t.Errorf("the result %d after the first ones were overwritten: %x", i, r)
			}
		}
	}
}

// TestMemoryOfLists is of P7.5: the lists of rounds and of keys stay as they are, too.
func TestMemoryOfLists(t *testing.T) {
	rounds := []int{1, 2, 3}[:2]
	Rounds(counting(), some(40), rounds...)
	Rounds(nil, some(40), rounds...)
	if !slices.Equal(rounds[:3], []int{1, 2, 3}) {
		t.Errorf("the rounds were changed to %v", rounds[:3])
	}
	keys := keysOf()[:3]
	SealAll(some(40), keys...)
	OpenAll(some(40), keys...)
	SealAll(nil, keys...)
	for i, k := range keys[:4] {
		if !slices.Equal(k, keysOf()[i]) {
			t.Errorf("the key %d was changed to %x", i, k)
		}
	}
}

// TestMemoryOfCipher is of P7.5: a cipher keeps its key as it was.
func TestMemoryOfCipher(t *testing.T) {
	key := counting()
	c, _ := New(key)
	spoil(key)
	got, e := c.Seal(some(40))
	is(t, "Seal after the key was overwritten", got, e, want(t, counting(), some(40), 1, 2, 3, 4))
}
