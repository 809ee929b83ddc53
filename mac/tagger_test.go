package mac

import (
	"crypto/sha256"
	"slices"
	"testing"
)

// innerSum returns the hash of the masked key and the data: what the hash inside a tagger comes to.
func innerSum(key, data []byte) [32]byte {
	if len(key) > 64 {
		sum := sha256.Sum256(key)
		key = sum[:]
	}
	block := make([]byte, 64)
	copy(block, key)
	for i := range block {
		block[i] ^= 0x36
	}
	return sha256.Sum256(append(block, data...))
}

// holds checks what a tagger says of its key and of the bytes that were written to it.
func holds(t *testing.T, name string, g *Tagger, key, data []byte) {
	t.Helper()
	want := libraryTag(key, data)
	if g.Len() != 64+len(data) {
		t.Errorf("%s: Len %d behind %d bytes", name, g.Len(), len(data))
	}
	if got := g.Sum(); got != want {
		t.Errorf("%s: Sum %x", name, got)
	}
	if got := g.Hash.Sum(); got != innerSum(key, data) {
		t.Errorf("%s: Sum of the Hash %x", name, got)
	}
	if !g.Fits(want[:16]) {
		t.Errorf("%s: its tag does not fit", name)
	}
}

// TestTaggerKeys is of P3.4: keys of all lengths, before and after writing.
func TestTaggerKeys(t *testing.T) {
	for _, k := range keySizes {
		key := some(k)
		g := NewTagger(key)
		holds(t, "new", g, key, nil)
		g.Write(some(10))
		holds(t, "written", g, key, some(10))
	}
	holds(t, "no key", NewTagger(nil), nil, nil)
}

// TestTaggerDivided is of P3.4: any division of the bytes between calls and parts.
func TestTaggerDivided(t *testing.T) {
	key, b := []byte("Jefe"), some(200)
	for i := range len(b) + 1 {
		half := (i + len(b)) / 2
		calls := NewTagger(key)
		calls.Write(b[:i])
		calls.Write()
		calls.Write(nil, b[i:half], []byte{})
		calls.Write(b[half:])
		holds(t, "calls", calls, key, b)
		parts := NewTagger(key)
		parts.Write(b[:i], b[i:half], nil, b[half:])
		holds(t, "parts", parts, key, b)
	}
}

// TestTaggerGrows is of P3.4: byte by byte, with a Sum after each; Sum and Fits change nothing.
func TestTaggerGrows(t *testing.T) {
	key, b := some(33), some(140)
	g := NewTagger(key)
	for i := range b {
		holds(t, "growing", g, key, b[:i])
		holds(t, "once more", g, key, b[:i])
		if g.Write(b[i:i+1]) != &g.Hash {
			t.Errorf("Write returns another hash")
		}
	}
	holds(t, "grown", g, key, b)
}

// TestTaggerFits is of P3.4: only the first 16 bytes of the Sum fit.
func TestTaggerFits(t *testing.T) {
	g := NewTagger(some(32))
	g.Write(some(100))
	full := g.Sum()
	for n := range len(full) + 1 {
		if got := g.Fits(full[:n]); got != (n == 16) {
			t.Errorf("Fits of the first %d bytes: %v", n, got)
		}
	}
	for bit := range 16 * 8 {
		tag := slices.Clone(full[:16])
		tag[bit/8] ^= 1 << (bit % 8)
		if g.Fits(tag) {
			t.Errorf("Fits with the bit %d changed", bit)
		}
	}
	inner := g.Hash.Sum()
	if g.Fits(nil) || g.Fits(full[16:]) || g.Fits(inner[:16]) || g.Fits(make([]byte, 16)) {
		t.Errorf("Fits of no tag at all")
	}
	g.Write([]byte{0})
	if g.Fits(full[:16]) {
		t.Errorf("the tag of what was written before fits")
	}
}

// TestTaggerTwin is of P3.4: a copy goes on by itself, and a twin is that of the Hash.
func TestTaggerTwin(t *testing.T) {
	for _, n := range []int{0, 1, 63, 64, 100} {
		key, b, more := some(40), some(n), []byte("more")
		g := NewTagger(key)
		g.Write(b)
		plain := *g
		twin := g.Twin()
		g.Write(more)
		holds(t, "copy of a written one", &plain, key, b)
		if twin.Sum() != innerSum(key, b) || twin.Len() != 64+n {
			t.Errorf("the twin's Sum %x", twin.Sum())
		}
		plain.Write(some(70))
		twin.Write(some(80))
		holds(t, "beside a written copy", g, key, slices.Concat(b, more))
		holds(t, "written copy", &plain, key, slices.Concat(b, some(70)))
	}
}

// TestTaggerZero is of P3.4 and of the details: Len 0, Write is taken; Sum and Fits answer, whatever it is.
func TestTaggerZero(t *testing.T) {
	var g Tagger
	if g.Len() != 0 {
		t.Errorf("zero: Len %d", g.Len())
	}
	g.Write(some(70), some(3))
	if g.Len() != 73 || g.Hash.Sum() != sha256.Sum256(slices.Concat(some(70), some(3))) {
		t.Errorf("zero, written: Len %d, Sum of its Hash %x", g.Len(), g.Hash.Sum())
	}
	g.Sum()
	g.Fits(make([]byte, 16))
	if g.Len() != 73 {
		t.Errorf("zero, summed: Len %d", g.Len())
	}
}
