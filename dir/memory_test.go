package dir

import (
	"slices"
	"testing"

	"shallot/api"
)

// spoil overwrites a list, its spare capacity too.
func spoil[T any](list []T, with T) {
	for i := range list[:cap(list)] {
		list[:cap(list)][i] = with
	}
}

// TestMemoryOfArguments is of P9.6: the lists stay as they are, behind their ends too.
func TestMemoryOfArguments(t *testing.T) {
	d := made(t, "s", "al", "bob", "eve", "me")
	seed := []byte("seeds")
	names := []string{"a", "b", "c"}
	stops := []api.Stop{{Name: "al", Delay: 1}, {Name: "bob", Flags: 2}, {Name: "me"}}
	hops := []Hop{{Node: Node{Node: d[0]}, Delay: 1}, {Node: Node{Node: d[1]}, Flags: 3}, {Delay: 9}}
	was, wasSeed, wasNames, wasStops, wasHops := slices.Clone(d), slices.Clone(seed), slices.Clone(names), slices.Clone(stops), slices.Clone(hops)
	for n := range 3 {
		Check(d[:n])
		Fits(d[:n])
		Find(d[:n], "al")
		At(d[:n], 2)
		Route(d[:n], stops[:n]...)
		Make(seed[:n], names[:n]...)
		Publics(hops[:n]...)
		Total(hops[:n]...)
	}
	if !slices.Equal(d, was) {
		t.Errorf("the directory was changed to %v", d)
	}
	if !slices.Equal(seed, wasSeed) || !slices.Equal(names, wasNames) {
		t.Errorf("the seed was changed to %q, the names to %q", seed, names)
	}
	if !slices.Equal(stops, wasStops) || !slices.Equal(hops, wasHops) {
		t.Errorf("the stops were changed to %v, the hops to %v", stops, hops)
	}
}

// TestMemoryOfKeys is of P9.6: the keys are new lists at each call.
func TestMemoryOfKeys(t *testing.T) {
	d := made(t, "s", "al", "bob")
	hops, _ := Route(d, api.Stop{Name: "al"}, api.Stop{Name: "bob"}, api.Stop{Name: "al"})
	keys := Publics(hops...)
	lists := append(keys, hops[0].Public(), hops[0].Private(), hops[0].Public(), hops[0].Node.Private())
	want := [][]byte{d[0].Pub[:], d[1].Pub[:], d[0].Pub[:], d[0].Pub[:], d[0].Priv[:], d[0].Pub[:], d[0].Priv[:]}
	for i, list := range lists {
		if !slices.Equal(list, want[i]) {
			t.Errorf("the list %d was changed to %x", i, list)
		}
		spoil(list, 0xa5)
	}
	spoil(keys[:2], nil)
	if hops[0].Node.Node != d[0] || hops[1].Node.Node != d[1] || !slices.Equal(hops[0].Public(), d[0].Pub[:]) {
		t.Errorf("the hops were changed to %v", hops)
	}
	belong(t, d, true)
}

// TestMemoryOfRoutes is of P9.6: a route is not that of the directory, of the stops or of another call.
func TestMemoryOfRoutes(t *testing.T) {
	d := made(t, "s", "al", "bob")
	was := slices.Clone(d)
	stops := []api.Stop{{Name: "al", Delay: 1}, {Name: "bob", Flags: 2}}
	one, _ := Route(d, stops...)
	two, _ := Route(d, stops...)
	want := slices.Clone(two)
	spoil(one, Hop{Delay: 77})
	spoil(stops, api.Stop{Name: "eve"})
	spoil(d, api.Node{Name: "eve"})
	if !slices.Equal(two, want) || two[0].Node.Node != was[0] || two[1].Node.Node != was[1] {
		t.Errorf("the hops were changed to %v", two)
	}
}

// TestMemoryOfMake is of P9.6: a directory is not that of another call, and does not hang on the lists any more.
func TestMemoryOfMake(t *testing.T) {
	seed, names := []byte("s"), []string{"al", "bob"}
	one, _ := Make(seed, names...)
	two, _ := Make(seed, names...)
	want := slices.Clone(two)
	spoil(one, api.Node{Name: "eve"})
	spoil(seed, 0)
	spoil(names, "eve")
	if !slices.Equal(two, want) || !slices.Equal(two, made(t, "s", "al", "bob")) {
		t.Errorf("the directory was changed to %v", two)
	}
}

// TestMemoryOfFind is of P9.6: a node that was found stays when the directory changes.
func TestMemoryOfFind(t *testing.T) {
	d := made(t, "s", "al", "bob")
	was := slices.Clone(d)
	al, _ := Find(d, "al")
	bob, _ := At(d, 2)
	spoil(d, api.Node{Name: "eve"})
	if al.Node != was[0] || bob.Node != was[1] {
		t.Errorf("the nodes were changed to %v and %v", al, bob)
	}
	d = slices.Clone(was)
	al.Name, al.Pub[0] = "eve", 0
	if !slices.Equal(d, was) {
		t.Errorf("the directory was changed to %v", d)
	}
}
