package command

import (
	"slices"
	"testing"

	"shallot/api"
)

// spoil overwrites a list, its spare capacity too.
func spoil[T any](list []T, with T) {
	for i := range list[:cap(list)] {
		list[:cap(list)][i] = with
	}
}

// TestMemoryOfArguments is of P10.5: the lists stay as they are, behind their ends too.
func TestMemoryOfArguments(t *testing.T) {
	whole := slices.Repeat(laid(api.Command{Kind: 4, Delay: 9, Mark: marked()}, 0), 2)
	hops := good(5)
	list := commands()[:5]
	wasWhole, wasHops, wasList := slices.Clone(whole), slices.Clone(hops), slices.Clone(list)
	for n := range 5 {
		Decode(whole[:28+n])
		Path(api.Command{Kind: 2}, hops[:n]...)
		Tell(list[:n]...)
	}
	if !slices.Equal(whole, wasWhole) || !slices.Equal(hops, wasHops) || !slices.Equal(list, wasList) {
		t.Errorf("the bytes were changed to %v, the hops to %v, the commands to %v", whole, hops, list)
	}
}

// TestMemoryOfResults is of P10.5: two calls return two lists, which do not hang on the arguments any more.
func TestMemoryOfResults(t *testing.T) {
	c := api.Command{Kind: 4, Delay: 9, Mark: marked()}
	one, _ := Encode(c)
	two, _ := Encode(c)
	spoil(one, 0xa5)
	decodes(t, two, c, api.OK)
	got, _ := Decode(two)
	spoil(two, 0x5a)
	encodes(t, got, laid(c, 0), api.OK)

	hops := good(3)
	path, _ := Path(c, hops...)
	other, _ := Path(c, hops...)
	want := slices.Clone(other)
	spoil(hops, hop(77, 7, 7))
	spoil(path, api.Command{Kind: 77})
	if !slices.Equal(other, want) {
		t.Errorf("the path was changed to %v", other)
	}

	told, twin := Tell(other...), Tell(other...)
	spoil(other, api.Command{Kind: 77})
	spoil(told, Told{})
	for i, c := range want {
		if twin[i].Command != c {
			t.Errorf("the command %d was changed to %v", i, twin[i])
		}
	}
}
