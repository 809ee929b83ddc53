package command

import (
	"math"
	"slices"
	"testing"

	"shallot/api"
	"shallot/dir"
)

// hop returns a hop with this number.
func hop(id uint64, delay, flags int) dir.Hop {
	return dir.Hop{Node: dir.Node{Node: api.Node{Name: "n", Id: id}}, Delay: delay, Flags: flags}
}

// good returns n hops with nothing wrong.
func good(n int) []dir.Hop {
	hops := make([]dir.Hop, n)
	for i := range hops {
		hops[i] = hop(uint64(i+1)<<40+7, 200000*i, 50*i+3)
	}
	return hops
}

// paths compares what Path returns.
func paths(t *testing.T, last api.Command, hops []dir.Hop, want []api.Command, err api.Errno) {
	t.Helper()
	if got, e := Path(last, hops...); e != err || !slices.Equal(got, want) {
		t.Fatalf("Path(%v, %v) = %v, %v, not %v, %v", last, hops, got, e, want, err)
	}
}

// TestPathExamples is of P10.3: the document's examples, along a route of the directory.
func TestPathExamples(t *testing.T) {
	d, _ := dir.Make([]byte("s"), "al", "bob")
	hops, e := dir.Route(d, api.Stop{Name: "bob", Delay: 5}, api.Stop{Name: "al"})
	if e != api.OK {
		t.Fatal(e)
	}
	paths(t, api.Command{Kind: api.Deliver}, hops, []api.Command{{Kind: api.Relay, Delay: 5, Next: 1}, {Kind: api.Deliver}}, api.OK)
	paths(t, api.Command{Kind: api.Relay, Next: 1}, hops, nil, api.ErrArg)
	paths(t, api.Command{Kind: api.Deliver}, nil, nil, api.ErrSize)
}

// TestPath is of P10.3: one to five hops, each kind of the last one.
func TestPath(t *testing.T) {
	for _, last := range []api.Command{{Kind: api.Deliver}, {Kind: api.Cover}, {Kind: api.Reply}, {Kind: api.Reply, Mark: marked()}} {
		for n := 1; n <= 5; n++ {
			hops := good(n)
			var want []api.Command
			for i, h := range hops[1:] {
				want = append(want, api.Command{Kind: api.Relay, Flags: byte(50*i + 3), Delay: uint32(200000 * i), Next: h.Id})
			}
			want = append(want, api.Command{Kind: last.Kind, Flags: byte(50*n - 47), Delay: uint32(200000 * (n - 1)), Mark: last.Mark})
			paths(t, last, hops, want, api.OK)
			for _, c := range want {
				if e := Check(c); e != api.OK {
					t.Errorf("the command %v of a path: %v", c, e)
				}
			}
			// Neither the first number nor the delay and the flags of last count.
			hops[0].Id = 0
			last.Delay, last.Flags = 1000001, 255
			paths(t, last, hops, want, api.OK)
			last.Delay, last.Flags = math.MaxUint32, 1
			paths(t, last, hops, want, api.OK)
			last.Delay, last.Flags = 0, 0
		}
	}
}

// TestPathEdges is of P10.3: the least and the greatest delays, flags and numbers; one node more than once.
func TestPathEdges(t *testing.T) {
	most := hop(math.MaxUint64, 1000000, 255)
	paths(t, api.Command{Kind: api.Cover}, []dir.Hop{most, most, hop(1, 0, 0), hop(1, 0, 0), most}, []api.Command{
		{Kind: api.Relay, Flags: 255, Delay: 1000000, Next: math.MaxUint64},
		{Kind: api.Relay, Flags: 255, Delay: 1000000, Next: 1},
		{Kind: api.Relay, Next: 1},
		{Kind: api.Relay, Next: math.MaxUint64},
		{Kind: api.Cover, Flags: 255, Delay: 1000000},
	}, api.OK)
	paths(t, api.Command{Kind: api.Reply}, []dir.Hop{{}}, []api.Command{{Kind: api.Reply}}, api.OK)
}

// wrongHops have a delay or flags out of range.
func wrongHops() []dir.Hop {
	var list []dir.Hop
	for _, n := range []int{-1, math.MinInt, math.MaxInt, 1 << 32, 1<<32 + 1, -1 << 32} {
		list = append(list, hop(1, n, 0), hop(1, 0, n), hop(0, n, n))
	}
	return append(list, hop(1, 1000001, 0), hop(1, 0, 256))
}

// lasts returns commands that a path may end with, that have a wrong form, and that are of a wrong kind.
func lasts() (fine, deformed, alien []api.Command) {
	for _, kind := range []byte{2, 3, 4} {
		fine = append(fine, api.Command{Kind: kind})
		deformed = append(deformed, api.Command{Kind: kind, Next: 1}, api.Command{Kind: kind, Next: math.MaxUint64, Delay: 1000001, Mark: marked()})
	}
	for i := range 16 {
		c := api.Command{Kind: byte(2 + i%2)}
		c.Mark[i] = byte(i + 1)
		deformed = append(deformed, c)
	}
	for _, kind := range []byte{0, 1, 5, 6, 129, 255} {
		alien = append(alien, api.Command{Kind: kind}, api.Command{Kind: kind, Next: 1}, api.Command{Kind: kind, Next: 1, Mark: marked(), Delay: 1000001})
	}
	return fine, deformed, alien
}

// TestPathArgs is of P10.3: a kind, a delay or flags out of range come ahead of all other errors.
func TestPathArgs(t *testing.T) {
	fine, deformed, alien := lasts()
	for _, n := range []int{0, 1, 2, 5, 6, 9} {
		unnumbered := make([]dir.Hop, n)
		for _, last := range alien {
			paths(t, last, good(n), nil, api.ErrArg)
			paths(t, last, unnumbered, nil, api.ErrArg)
		}
		for _, bad := range wrongHops() {
			for i := range n + 1 {
				for _, last := range slices.Concat(fine, deformed[:3], alien[:3]) {
					paths(t, last, slices.Insert(slices.Repeat(good(1), n), i, bad), nil, api.ErrArg)
					paths(t, last, slices.Insert(slices.Clone(unnumbered), i, bad), nil, api.ErrArg)
				}
			}
		}
	}
}

// TestPathSizes is of P10.3: no hops and too many of them, ahead of what is not in form.
func TestPathSizes(t *testing.T) {
	fine, deformed, _ := lasts()
	for _, n := range []int{0, 6, 7, 1000} {
		for _, last := range slices.Concat(fine, deformed) {
			paths(t, last, slices.Repeat(good(1), n), nil, api.ErrSize)
			paths(t, last, make([]dir.Hop, n), nil, api.ErrSize)
		}
	}
}

// TestPathForms is of P10.3: the Next and the Mark of last, and hops without a number but for the first.
func TestPathForms(t *testing.T) {
	fine, deformed, _ := lasts()
	for n := 1; n <= 5; n++ {
		for _, last := range deformed {
			paths(t, last, good(n), nil, api.ErrForm)
		}
		for i := 1; i < n; i++ {
			hops := good(n)
			hops[i].Id = 0
			for _, last := range slices.Concat(fine, deformed) {
				paths(t, last, hops, nil, api.ErrForm)
			}
		}
	}
}
