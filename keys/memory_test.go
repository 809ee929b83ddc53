package keys_test

import (
	"slices"
	"testing"

	"shallot/api"
	"shallot/keys"
)

// spoil overwrites a list, its spare capacity too.
func spoil[T any](list []T, with T) {
	for i := range list[:cap(list)] {
		list[:cap(list)][i] = with
	}
}

// TestMemoryOfArguments is of P12.5: bytes stay as they are, those in the spare capacity too.
func TestMemoryOfArguments(t *testing.T) {
	_, pubs := hops(t, 5)
	b := slices.Concat(raised(mixed(1)), mixed(2), raised(pubs[0]), pubs[1], pubs[2])
	was := slices.Clone(b)
	one, two, p, q := b[:32], b[32:64], b[64:96], b[96:128]
	keys.Of(one)
	keys.Of(b)
	keys.Peel(one, two)
	keys.Peel(two, p)
	keys.Schedule(one, p, q)
	keys.Schedule(two, p, p, p[:5])
	keys.Schedule(two, b)
	if !slices.Equal(b, was) {
		t.Errorf("the bytes were changed")
	}
}

// TestMemoryOfLists is of P12.5: lists of keys and of steps stay as they are, behind their ends too.
func TestMemoryOfLists(t *testing.T) {
	_, pubs := hops(t, 6)
	first := make([]*byte, 6)
	for i := range pubs {
		first[i] = &pubs[i][0]
	}
	steps := schedule(t, mixed(3), pubs[:5]...)
	was := slices.Clone(steps)
	for n := range 6 {
		keys.Schedule(mixed(3), pubs[:n]...)
		keys.Pays(steps[:n]...)
	}
	steps[0].Next()
	for i, pub := range pubs {
		if &pub[0] != first[i] || len(pub) != 32 || [32]byte(pub) != public(t, mixed(i)) {
			t.Errorf("the key %d was changed to %x", i, pub)
		}
	}
	if !slices.Equal(steps, was) {
		t.Errorf("the steps were changed to %x", steps)
	}
}

// TestMemoryOfResults is of P12.5: two calls return two lists, which do not hang on the arguments any more.
func TestMemoryOfResults(t *testing.T) {
	_, pubs := hops(t, 3)
	x := mixed(4)
	one, two := schedule(t, x, pubs...), schedule(t, x, pubs...)
	want := meant(t, x, pubs...)
	spoil(one, keys.Step{})
	spoil(x, 0)
	for _, pub := range pubs {
		spoil(pub, 0)
	}
	spoil(pubs, nil)
	if !slices.Equal(two, want) {
		t.Errorf("the steps were changed to %x", two)
	}

	priv, alpha := mixed(5), mixed(6)
	s, _ := keys.Peel(priv, alpha)
	kept := s
	spoil(priv, 0)
	spoil(alpha, 0)
	if again, e := keys.Peel(mixed(5), mixed(6)); e != api.OK || s != kept || again != kept {
		t.Errorf("the step was changed to %x", s)
	}
}

// TestMemoryOfPays is of P12.5: the payload keys are new lists, apart from the steps, from each other and from another call's.
func TestMemoryOfPays(t *testing.T) {
	_, pubs := hops(t, 4)
	steps := schedule(t, mixed(7), pubs...)
	was := slices.Clone(steps)
	list, twin := keys.Pays(steps...), keys.Pays(steps...)
	for i, b := range list {
		if !slices.Equal(b, was[i].Pay[:]) {
			t.Errorf("the key %d was changed to %x", i, b)
		}
		spoil(b, 0xa5)
	}
	spoil(list, nil)
	if !slices.Equal(steps, was) {
		t.Errorf("the steps were changed to %x", steps)
	}
	spoil(steps, keys.Step{})
	for i, b := range twin {
		if !slices.Equal(b, was[i].Pay[:]) {
			t.Errorf("the key %d was changed to %x", i, b)
		}
	}
}
