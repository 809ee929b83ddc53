package curve

import (
	"encoding/hex"
	"slices"
	"testing"

	"shallot/api"
)

// pairOf returns the pair of a private key that has its length.
func pairOf(t *testing.T, priv []byte) Pair {
	t.Helper()
	p, e := NewPair(priv)
	if e != api.OK {
		t.Fatal(e)
	}
	return p
}

// TestNewPair is of P6.5: the private key as it was passed, not clamped, and its public one.
func TestNewPair(t *testing.T) {
	for _, priv := range [][]byte{make([]byte, 32), small(1), slices.Repeat([]byte{255}, 32), mixed(1), mixed(2)} {
		pub, _ := Public(priv)
		if got, e := NewPair(priv); e != api.OK || got != (Pair{Priv: [32]byte(priv), Pub: pub}) {
			t.Errorf("NewPair(%x) = %x, %v", priv, got, e)
		}
	}
	for _, priv := range wrongs() {
		if got, e := NewPair(priv); e != api.ErrSize || got != (Pair{}) {
			t.Errorf("NewPair of %d bytes = %x, %v", len(priv), got, e)
		}
	}
}

// TestShared is of P6.3 and P6.5: the same for both pairs, and the product of the private key.
func TestShared(t *testing.T) {
	a := pairOf(t, unhex(t, "77076d0a7318a57d3c16c17251b26645df4c2f87ebc0992ab177fba51db92c2a"))
	b := pairOf(t, unhex(t, "5dab087e624a8a4b79e17f8b83800ee66f3bb1292618b6fd1c2f8b27ff88e0eb"))
	if got, e := a.Shared(b.Pub[:]); e != api.OK || hex.EncodeToString(got[:]) != "4a5d9d5ba4ce2de1728e3bf480350f25e07e21c947d19e3376f09b3c1e161742" {
		t.Errorf("Shared = %x, %v", got, e)
	}
	for i := range 20 {
		a, b := pairOf(t, mixed(i)), pairOf(t, mixed(100+i))
		one, e1 := a.Shared(b.Pub[:])
		two, e2 := b.Shared(a.Pub[:])
		want, _ := library(t, a.Priv[:], b.Pub[:])
		if e1 != api.OK || e2 != api.OK || one != want || two != want {
			t.Errorf("Shared of the pairs %d: %x and %x, %v and %v", i, one, two, e1, e2)
		}
	}
}

// TestSharedRefuses is of P6.5: the errors of Mult.
func TestSharedRefuses(t *testing.T) {
	p := pairOf(t, mixed(1))
	for _, pub := range wrongs() {
		if got, e := p.Shared(pub); e != api.ErrSize || got != [32]byte{} {
			t.Errorf("Shared with %d bytes = %x, %v", len(pub), got, e)
		}
	}
	for _, pub := range lows(t) {
		if got, e := p.Shared(pub); e != api.ErrZero || got != [32]byte{} {
			t.Errorf("Shared with %x = %x, %v", pub, got, e)
		}
	}
}

// TestSharedAny is of P6.5 and rule 1: pairs whose keys do not belong together, and the zero Pair; only Priv counts.
func TestSharedAny(t *testing.T) {
	pub, _ := Public(mixed(3))
	for _, p := range []Pair{{}, {Priv: [32]byte(mixed(1))}, {Priv: [32]byte(mixed(1)), Pub: [32]byte(mixed(2))}, {Pub: [32]byte(mixed(2))}} {
		want, _ := Mult(p.Priv[:], pub[:])
		if got, e := p.Shared(pub[:]); e != api.OK || got != want {
			t.Errorf("Shared of %x = %x, %v", p, got, e)
		}
	}
}

// TestNamed is of P6.5: the keys and Shared are those of the pair inside.
func TestNamed(t *testing.T) {
	p, other := pairOf(t, mixed(1)), pairOf(t, mixed(2))
	n := Named{Pair: p, Name: "al"}
	want, _ := p.Shared(other.Pub[:])
	if got, e := n.Shared(other.Pub[:]); e != api.OK || got != want || n.Priv != p.Priv || n.Pub != p.Pub || n.Name != "al" {
		t.Errorf("Shared of a Named = %x, %v", got, e)
	}
	if got, e := n.Shared(small(1)); e != api.ErrZero || got != [32]byte{} {
		t.Errorf("Shared of a Named with a low point = %x, %v", got, e)
	}
	if got, e := n.Shared(nil); e != api.ErrSize || got != [32]byte{} {
		t.Errorf("Shared of a Named with nothing = %x, %v", got, e)
	}
	var shares interface {
		Shared([]byte) ([32]byte, api.Errno)
	} = Named{}
	want, _ = Pair{}.Shared(other.Pub[:])
	if got, e := shares.Shared(other.Pub[:]); e != api.OK || got != want {
		t.Errorf("Shared of the zero Named = %x, %v", got, e)
	}
}

// spoil overwrites a list, its spare capacity too.
func spoil(b []byte) {
	for i := range b[:cap(b)] {
		b[:cap(b)][i] ^= 0xff
	}
}

// TestMemory is of P6.6: arguments stay as they are, their spare capacity too, and results keep nothing of them.
func TestMemory(t *testing.T) {
	b := slices.Concat(mixed(1), mixed(2), raised(small(9)), mixed(3))
	before := slices.Clone(b)
	k, u, third := b[:32], b[32:64], b[64:96]
	ks := [][]byte{k, third, u}
	Clamp(k)
	Mult(k, u)
	Mult(k, third)
	Public(k)
	Chain(u)
	Chain(u, ks[:2]...)
	Chain(third, k, k)
	Low(u)
	p, _ := NewPair(k)
	n := Named{Pair: p}
	kept := p
	p.Shared(u)
	n.Shared(u)
	if !slices.Equal(b, before) || p != kept || n.Pair != kept {
		t.Errorf("an argument or a receiver was changed")
	}
	for i, want := range []*byte{&b[0], &b[64], &b[32]} {
		if &ks[i][0] != want || len(ks[i]) != 32 {
			t.Errorf("the scalar %d of the list was changed", i)
		}
	}
	spoil(b)
	if p != kept || p.Priv != [32]byte(before) {
		t.Errorf("the pair shares memory with its argument")
	}
}

// TestSame is of rule 6: the same call returns the same.
func TestSame(t *testing.T) {
	for range 3 {
		one, e1 := Chain(mixed(1), mixed(2), mixed(3))
		two, e2 := Chain(mixed(1), mixed(2), mixed(3))
		if e1 != e2 || one != two || pairOf(t, mixed(4)) != pairOf(t, mixed(4)) {
			t.Errorf("two calls return unlike results")
		}
	}
}
