package mac

import (
	"slices"
	"testing"

	"shallot/api"
)

// spoil overwrites a list, its spare capacity too.
func spoil(b []byte) {
	for i := range b[:cap(b)] {
		b[:cap(b)][i] ^= 0xff
	}
}

// TestMemoryOfArguments is of P3.5: bytes stay as they are, those in the spare capacity too.
func TestMemoryOfArguments(t *testing.T) {
	b := some(400)
	before := slices.Clone(b)
	for _, size := range []int{0, 16, 32, 64, 90} {
		key, part, tag := b[:size], b[100:100+size], b[200:216]
		Tag(key, part, part)
		Short(key, part, part)
		Check(key, tag, part, part)
		Extract(key, part)
		Expand(key, 100, part, part)
		Derive(key, "a", "b")
		g := NewTagger(key)
		g.Write(part, part)
		g.Sum()
		g.Fits(tag)
	}
	if !slices.Equal(b, before) {
		t.Errorf("an argument was changed")
	}
}

// TestMemoryOfLists is of P3.5: the lists of parts and of labels stay as they are, too.
func TestMemoryOfLists(t *testing.T) {
	parts := [][]byte{{1}, {2}, {3}}[:2]
	Tag(nil, parts...)
	Short(nil, parts...)
	Check(nil, nil, parts...)
	Expand(nil, 50, parts...)
	NewTagger(nil).Write(parts...)
	for i, p := range parts[:3] {
		if !slices.Equal(p, []byte{byte(i + 1)}) {
			t.Errorf("the parts were changed to %v", parts[:3])
		}
	}
	labels := []string{"a", "b", "c"}[:2]
	Derive(nil, labels...)
	if !slices.Equal(labels[:3], []string{"a", "b", "c"}) {
		t.Errorf("the labels were changed to %v", labels[:3])
	}
}

// TestMemoryOfTagger is of P3.5: a tagger keeps neither its key nor what is written.
func TestMemoryOfTagger(t *testing.T) {
	for _, size := range []int{0, 5, 64, 65} {
		key, part, more := some(size), some(70), some(9)
		want := libraryTag(key, slices.Concat(part, more))
		g := NewTagger(key)
		spoil(key)
		g.Write(part)
		spoil(part)
		g.Write(more)
		spoil(more)
		if g.Sum() != want {
			t.Errorf("a tagger keeps its key of %d bytes or a part", size)
		}
	}
	if NewTagger(nil) == NewTagger(nil) {
		t.Errorf("two calls of NewTagger return the same one")
	}
}

// TestMemoryOfResults is of P3.5: results are new each time.
func TestMemoryOfResults(t *testing.T) {
	key, data := some(32), some(20)
	short := Short(key, data)
	want := slices.Clone(short)
	spoil(short)
	if again := Short(key, data); !slices.Equal(again, want) || !Check(key, want, data) {
		t.Errorf("Short after its result was overwritten: %x", again)
	}
	long, _ := Expand(key, 100, data)
	want = slices.Clone(long)
	spoil(long)
	if again, e := Expand(key, 100, data); e != api.OK || !slices.Equal(again, want) {
		t.Errorf("Expand after its result was overwritten: %x", again)
	}
	keys := Derive(key, "a", "b")
	first := keys[0]
	clear(keys)
	if again := Derive(key, "a", "b"); again[0] != first {
		t.Errorf("Derive after its result was overwritten: %x", again)
	}
}
