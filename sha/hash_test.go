package sha

import (
	"crypto/sha256"
	"slices"
	"strings"
	"testing"

	"shallot/api"
)

// holds checks what a hash says of the bytes that were written to it.
func holds(t *testing.T, name string, h *Hash, b []byte) {
	t.Helper()
	if h.Len() != len(b) {
		t.Errorf("%s: Len %d, not %d", name, h.Len(), len(b))
	}
	if got := h.Sum(); got != sha256.Sum256(b) {
		t.Errorf("%s: Sum %x", name, got)
	}
}

// TestHashDivided is of P2.3: any division of the bytes between New, Write and their parts.
func TestHashDivided(t *testing.T) {
	b := some(3*blockSize + 9)
	for i := range len(b) + 1 {
		holds(t, "New and Write", New(b[:i]).Write(b[i:]), b)
		half := (i + len(b)) / 2
		holds(t, "parts of Write", New().Write(b[:i], nil, b[i:half]).Write(nil).Write().Write(b[half:]), b)
		holds(t, "parts of New", New(b[:i], b[i:half], b[half:]), b)
	}
}

// TestHashGrows is of P2.3: byte by byte, with a Sum after each; Sum changes nothing.
func TestHashGrows(t *testing.T) {
	b := some(2*blockSize + 3)
	h := New()
	for i := range b {
		holds(t, "growing", h, b[:i])
		holds(t, "once more", h, b[:i])
		h.Write(b[i : i+1])
	}
	holds(t, "grown", h, b)
}

// TestHashEmpty is of P2.3: the zero Hash, and New without parts.
func TestHashEmpty(t *testing.T) {
	holds(t, "zero", new(Hash), nil)
	holds(t, "New", New(), nil)
	holds(t, "New of nil", New(nil, nil), nil)
	var h Hash
	b := some(100)
	holds(t, "zero, written", h.Write(b), b)
	holds(t, "zero, itself", &h, b)
}

// TestHashItself is of P2.3: Write returns its receiver.
func TestHashItself(t *testing.T) {
	h := New()
	if h.Write() != h || h.Write([]byte("a")) != h || h.Write(some(200), nil) != h {
		t.Errorf("Write returns another hash")
	}
}

// TestHashTwin is of P2.3: a twin is independent, and so is a copy, within a block and between blocks.
func TestHashTwin(t *testing.T) {
	more, other := some(90), slices.Repeat([]byte{200}, 90)
	for _, n := range []int{0, 1, 63, 64, 65, 128, 150} {
		b := some(n)
		h := New(b)
		twin := h.Twin()
		plain := *h
		if twin == h {
			t.Errorf("Twin returns its receiver")
		}
		holds(t, "twin", twin, b)
		h.Write(more)
		holds(t, "twin of a written one", twin, b)
		holds(t, "copy of a written one", &plain, b)
		twin.Write(other)
		holds(t, "written", h, slices.Concat(b, more))
		holds(t, "written twin", twin, slices.Concat(b, other))
		plain.Write(other[:1])
		holds(t, "written copy", &plain, slices.Concat(b, other[:1]))
		holds(t, "beside a written copy", h, slices.Concat(b, more))
	}
	holds(t, "twin of zero", new(Hash).Twin(), nil)
}

// TestLabel is of P2.4: what a labelled hash begins with.
func TestLabel(t *testing.T) {
	for _, name := range []string{"", "a", "ab", "é\xff\x00", strings.Repeat("x", 254), strings.Repeat("y", 255)} {
		l, e := Label(name)
		if e != api.OK || l == nil {
			t.Errorf("Label(%q): %v", name, e)
			continue
		}
		begin := append([]byte{byte(len(name))}, name...)
		holds(t, "label", &l.Hash, begin)
		if l.Name() != name || l.Len() != len(begin) || l.Sum() != sha256.Sum256(begin) {
			t.Errorf("Label(%q): Name %q, Len %d, Sum %x", name, l.Name(), l.Len(), l.Sum())
		}
	}
	for _, n := range []int{256, 257, 511, 512, 1000} {
		if l, e := Label(strings.Repeat("x", n)); e != api.ErrSize || l != nil {
			t.Errorf("Label of %d bytes: %v, %v", n, l, e)
		}
	}
}

// TestLabelPromotes is of P2.4: the methods of Hash, called on a Labelled.
func TestLabelPromotes(t *testing.T) {
	l, _ := Label("ab")
	b := some(130)
	if l.Write(b[:70], nil, b[70:]) != &l.Hash {
		t.Errorf("Write returns another hash")
	}
	want := sha256.Sum256(slices.Concat([]byte{2, 'a', 'b'}, b))
	if l.Sum() != want || l.Len() != 133 || l.Name() != "ab" {
		t.Errorf("written: Len %d, Sum %x, Name %q", l.Len(), l.Sum(), l.Name())
	}
	twin := l.Twin()
	plain := *l
	l.Write([]byte("more"))
	if twin.Sum() != want || plain.Sum() != want || plain.Name() != "ab" || l.Len() != 137 {
		t.Errorf("a twin or a copy of a labelled hash is not independent")
	}
}

// TestLabelZero is of P2.4: the zero Labelled is an empty Hash with the name "".
func TestLabelZero(t *testing.T) {
	var l Labelled
	if l.Len() != 0 || l.Name() != "" || l.Sum() != sha256.Sum256(nil) {
		t.Errorf("zero: Len %d, Name %q, Sum %x", l.Len(), l.Name(), l.Sum())
	}
	l.Write([]byte("abc"))
	if l.Len() != 3 || l.Name() != "" || l.Sum() != sha256.Sum256([]byte("abc")) {
		t.Errorf("zero, written: Len %d, Name %q, Sum %x", l.Len(), l.Name(), l.Sum())
	}
}

// TestMemory is of P2.5: arguments stay as they are, their spare capacity too, and none is kept.
func TestMemory(t *testing.T) {
	b := some(200)
	before := slices.Clone(b)
	part, next := b[:70], b[80:150]
	want := sha256.Sum256(slices.Concat(part, next))
	h := New(part, next)
	w := New().Write(part).Write(next)
	if Sum(part, next) != want {
		t.Errorf("Sum of two parts")
	}
	Compress(Start(), b[:64])
	if !slices.Equal(b, before) {
		t.Errorf("the parts were changed")
	}
	parts := [][]byte{{1}, {2}, {3}}[:2]
	Sum(parts...)
	New(parts...).Write(parts...)
	if len(parts[:3][2]) != 1 || parts[0][0] != 1 || parts[1][0] != 2 || parts[:3][2][0] != 3 {
		t.Errorf("the list of parts was changed to %v", parts[:3])
	}
	clear(b)
	if h.Sum() != want || w.Sum() != want {
		t.Errorf("a hash keeps a part")
	}
}

// TestMemoryOfResults is of P2.5: results are new each time.
func TestMemoryOfResults(t *testing.T) {
	p, _ := Pad(3)
	for i := range p[:cap(p)] {
		p[:cap(p)][i] = 9
	}
	if again, e := Pad(3); e != api.OK || again[0] != 128 || again[len(again)-1] != 24 {
		t.Errorf("Pad(3) after its result was overwritten: %v", again)
	}
	start, constants := Start(), Constants()
	start[0], constants[0] = 0, 0
	if Start()[0] != 0x6a09e667 || Constants()[0] != 0x428a2f98 || Sum() != sha256.Sum256(nil) {
		t.Errorf("the constants were changed from outside")
	}
	if New() == New() {
		t.Errorf("two calls of New return the same hash")
	}
	a, _ := Label("x")
	b, _ := Label("x")
	a.Write([]byte("y"))
	if b.Len() != 2 {
		t.Errorf("two labelled hashes share their bytes")
	}
}
