package dir

import (
	"math"
	"slices"
	"testing"

	"shallot/api"
)

// routes compares what Route returns.
func routes(t *testing.T, d []api.Node, stops []api.Stop, want []Hop, err api.Errno) {
	t.Helper()
	if got, e := Route(d, stops...); e != err || !slices.Equal(got, want) {
		t.Fatalf("Route(%v) = %v, %v, not %v, %v", stops, got, e, want, err)
	}
}

// TestRouteExamples is of P9.4 and P9.5: the document's examples.
func TestRouteExamples(t *testing.T) {
	d := made(t, "s", "al", "bob")
	hops := []Hop{{Node: Node{Node: d[1]}, Delay: 5, Flags: 1}, {Node: Node{Node: d[0]}}}
	routes(t, d, []api.Stop{{Name: "bob", Delay: 5, Flags: 1}, {Name: "al"}}, hops, api.OK)
	if got := Total(hops...); got != 5 {
		t.Errorf("Total = %d", got)
	}
	routes(t, d, nil, nil, api.ErrSize)
	routes(t, d, []api.Stop{{Name: "eve"}}, nil, api.ErrName)
	routes(t, d, []api.Stop{{Name: "eve", Delay: -1}}, nil, api.ErrArg)
}

// TestRoute is of P9.4: one to five stops in order, a node more than once, all delays and flags.
func TestRoute(t *testing.T) {
	d := many(64)
	stops := []api.Stop{
		{Name: "n63", Delay: 1000000, Flags: 255},
		{Name: "n0"},
		{Name: "n63", Delay: 999999, Flags: 254},
		{Name: "n63", Delay: 1, Flags: 2},
		{Name: "n7", Delay: 65536, Flags: 128},
	}
	var want []Hop
	for _, s := range stops {
		n, _ := Find(d, s.Name)
		want = append(want, Hop{Node: n, Delay: s.Delay, Flags: s.Flags})
	}
	for from := range stops {
		for to := from + 1; to <= len(stops); to++ {
			routes(t, d, stops[from:to], want[from:to], api.OK)
		}
	}
	same := slices.Repeat(stops[:1], 5)
	routes(t, d, same, slices.Repeat(want[:1], 5), api.OK)
	for flags := range 256 {
		h := Hop{Node: want[1].Node, Delay: 3900 * flags, Flags: flags}
		routes(t, d, []api.Stop{{Name: "n0", Delay: h.Delay, Flags: flags}}, []Hop{h}, api.OK)
	}
}

// wrongStops have a delay or flags out of range.
func wrongStops() []api.Stop {
	return []api.Stop{
		{Name: "n0", Delay: -1}, {Name: "n0", Delay: 1000001}, {Name: "n0", Delay: math.MinInt}, {Name: "n0", Delay: math.MaxInt}, {Name: "n0", Delay: 1 << 32},
		{Name: "n0", Flags: -1}, {Name: "n0", Flags: 256}, {Name: "n0", Flags: math.MinInt}, {Name: "n0", Flags: math.MaxInt}, {Name: "n0", Flags: 1 << 32},
		{Name: "n0", Delay: -1, Flags: 256},
	}
}

// TestRouteRefuses is of P9.4: what is wrong, wherever it is, and the order of errors.
func TestRouteRefuses(t *testing.T) {
	d := many(4)
	good := api.Stop{Name: "n1", Delay: 5, Flags: 6}
	eve := api.Stop{Name: "eve"}
	big, bad, twice := many(65), many(4), many(4)
	bad[3].Name = "N"
	twice[3].Id = 1
	for _, wrong := range wrongStops() {
		for n := range 8 {
			for i := range n + 1 {
				stops := slices.Insert(slices.Repeat([]api.Stop{good}, n), i, wrong)
				for _, d := range [][]api.Node{d, nil, big, bad, twice} {
					routes(t, d, stops, nil, api.ErrArg)
				}
			}
			eves := append(slices.Repeat([]api.Stop{eve}, n), wrong)
			routes(t, d, eves, nil, api.ErrArg)
		}
	}
	for _, n := range []int{0, 6, 7, 1000} {
		for _, stop := range []api.Stop{good, eve} {
			for _, d := range [][]api.Node{d, nil, big, bad, twice} {
				routes(t, d, slices.Repeat([]api.Stop{stop}, n), nil, api.ErrSize)
			}
		}
	}
	for _, stop := range []api.Stop{good, eve} {
		for n := 1; n <= 5; n++ {
			stops := slices.Repeat([]api.Stop{stop}, n)
			routes(t, big, stops, nil, api.ErrSize)
			routes(t, bad, stops, nil, api.ErrForm)
			routes(t, twice, stops, nil, api.ErrName)
			routes(t, nil, stops, nil, api.ErrName)
		}
	}
}

// TestRouteNames is of P9.4: one name that no node has, in each place.
func TestRouteNames(t *testing.T) {
	d := many(4)
	for _, name := range []string{"", "n4", "N0", "n", "n0 "} {
		for n := range 5 {
			for i := range n + 1 {
				stops := slices.Insert(slices.Repeat([]api.Stop{{Name: "n2"}}, n), i, api.Stop{Name: name})
				routes(t, d, stops, nil, api.ErrName)
			}
		}
	}
}

// TestPromoted is of P9.4: a hop has what its node has, and that what api's node has.
func TestPromoted(t *testing.T) {
	d := made(t, "s", "al", "bob")
	hops, e := Route(d, api.Stop{Name: "bob", Delay: 3, Flags: 4})
	if e != api.OK || len(hops) != 1 {
		t.Fatalf("Route = %v, %v", hops, e)
	}
	h := hops[0]
	if h.Name != "bob" || h.Id != 2 || h.Priv != d[1].Priv || h.Pub != d[1].Pub || h.Delay != 3 || h.Flags != 4 {
		t.Errorf("the hop is %v", h)
	}
	if !slices.Equal(h.Public(), d[1].Pub[:]) || !slices.Equal(h.Private(), d[1].Priv[:]) {
		t.Errorf("the hop's keys are %x and %x", h.Public(), h.Private())
	}
	if h.Node.Node != d[1] || h.Node != (Node{Node: d[1]}) {
		t.Errorf("the hop's node is %v", h.Node)
	}
	var none Hop
	if !slices.Equal(none.Public(), make([]byte, 32)) || !slices.Equal(none.Private(), make([]byte, 32)) {
		t.Errorf("the keys of a zero hop are %x and %x", none.Public(), none.Private())
	}
}

// TestPublics is of P9.5: any number of hops, in order.
func TestPublics(t *testing.T) {
	if got := Publics(); len(got) != 0 {
		t.Errorf("Publics of no hops = %x", got)
	}
	for n := range 8 {
		var hops []Hop
		var want [][]byte
		for i := range n {
			h := Hop{Node: Node{Node: many(9)[8-i]}, Delay: -i}
			h.Pub[i] ^= 0x80
			hops = append(hops, h)
			want = append(want, h.Pub[:])
		}
		if got := Publics(hops...); !slices.EqualFunc(got, want, slices.Equal) {
			t.Errorf("Publics of %d hops = %x", n, got)
		}
	}
}

// TestTotal is of P9.5: sums of any delays, also beyond the greatest int.
func TestTotal(t *testing.T) {
	for _, c := range []struct {
		delays []int
		want   int
	}{
		{nil, 0},
		{[]int{0}, 0},
		{[]int{7}, 7},
		{[]int{-3, 1, 10}, 8},
		{[]int{1000000, 1000000, 1000000, 1000000, 1000000, 1000000}, 6000000},
		{[]int{math.MaxInt, 1}, math.MinInt},
		{[]int{math.MinInt, -1, -1}, math.MaxInt - 1},
		{[]int{math.MaxInt, math.MaxInt, 2}, 0},
	} {
		var hops []Hop
		for i, delay := range c.delays {
			hops = append(hops, Hop{Delay: delay, Flags: i + 100})
		}
		if got := Total(hops...); got != c.want {
			t.Errorf("Total(%v) = %d", c.delays, got)
		}
	}
}
