package dir

import (
	"math"
	"slices"
	"strconv"
	"strings"
	"testing"

	"shallot/api"
)

// many returns n nodes with names and numbers of their own.
func many(n int) []api.Node {
	d := make([]api.Node, n)
	for i := range d {
		d[i] = api.Node{Name: "n" + strconv.Itoa(i), Id: uint64(i) + 1}
		d[i].Priv[0], d[i].Pub[31] = byte(i), byte(7*i)
	}
	return d
}

// checks compares the errors of Check, and those of the calls that return them too: nothing may stand beside an error.
func checks(t *testing.T, d []api.Node, want api.Errno) {
	t.Helper()
	if e := Check(d); e != want {
		t.Fatalf("Check(%v) = %v, not %v", d, e, want)
	}
	if want == api.OK {
		return
	}
	if ok, e := Fits(d); ok || e != want {
		t.Fatalf("Fits(%v) = %v, %v, not %v", d, ok, e, want)
	}
	for _, n := range append(slices.Clone(d), api.Node{}) {
		if got, e := Find(d, n.Name); got != (Node{}) || e != want {
			t.Fatalf("Find(%v, %q) = %v, %v, not %v", d, n.Name, got, e, want)
		}
		if got, e := At(d, n.Id); got != (Node{}) || e != want {
			t.Fatalf("At(%v, %d) = %v, %v, not %v", d, n.Id, got, e, want)
		}
		if got, e := Route(d, api.Stop{Name: n.Name}); len(got) != 0 || e != want {
			t.Fatalf("Route(%v, %q) = %v, %v, not %v", d, n.Name, got, e, want)
		}
	}
}

// TestCheckExamples is of P9.1: the document's examples.
func TestCheckExamples(t *testing.T) {
	checks(t, nil, api.OK)
	checks(t, []api.Node{}, api.OK)
	checks(t, []api.Node{{Name: "a", Id: 1}, {Name: "a1", Id: 2}}, api.OK)
	for _, name := range []string{"", "1a", "A", strings.Repeat("a", 17)} {
		checks(t, []api.Node{{Name: name, Id: 1}}, api.ErrForm)
	}
	checks(t, []api.Node{{Name: "a"}}, api.ErrForm)
	checks(t, []api.Node{{Name: "a", Id: 1}, {Name: "a", Id: 2}}, api.ErrName)
	checks(t, many(65), api.ErrSize)
}

// TestCheckNames is of P9.1: every byte in every place of names of all lengths.
func TestCheckNames(t *testing.T) {
	const letters, digits = "abcdefghijklmnopqrstuvwxyz", "0123456789"
	named := func(name string, formed bool) {
		t.Helper()
		want := api.OK
		if !formed {
			want = api.ErrForm
		}
		checks(t, []api.Node{{Name: name, Id: 1}}, want)
	}
	for n := range 20 {
		named(strings.Repeat("z", n), n >= 1 && n <= 16)
	}
	named(strings.Repeat("a", 1000), false)
	named("a"+strings.Repeat("0", 15), true)
	named("a"+strings.Repeat("0", 16), false)
	for c := range 256 {
		letter := strings.IndexByte(letters, byte(c)) >= 0
		digit := strings.IndexByte(digits, byte(c)) >= 0
		for n := 1; n <= 16; n += 5 {
			for i := range n {
				b := slices.Repeat([]byte{'m'}, n)
				b[i] = byte(c)
				named(string(b), letter || digit && i > 0)
			}
		}
	}
	named("é", false)
	named("aé", false)
}

// TestCheckIds is of P9.1: every number but 0.
func TestCheckIds(t *testing.T) {
	for _, id := range []uint64{1, 2, 255, 256, 1 << 32, 1 << 63, math.MaxUint64} {
		checks(t, []api.Node{{Name: "a", Id: id}}, api.OK)
	}
	for i := range 5 {
		d := many(5)
		d[i].Id = 0
		checks(t, d, api.ErrForm)
	}
}

// TestCheckSizes is of P9.1: up to 64 nodes, whatever is wrong with more.
func TestCheckSizes(t *testing.T) {
	for _, n := range []int{0, 1, 2, 63, 64} {
		checks(t, many(n), api.OK)
	}
	for _, n := range []int{65, 66, 200} {
		checks(t, many(n), api.ErrSize)
		checks(t, make([]api.Node, n), api.ErrSize)
	}
}

// TestCheckTwice is of P9.1: two nodes with one name or one number, wherever they are.
func TestCheckTwice(t *testing.T) {
	for _, n := range []int{2, 3, 5, 64} {
		for i := range n {
			for j := range i {
				if n == 64 && i-j < 62 && i-j > 1 {
					continue
				}
				d := many(n)
				d[i].Name = d[j].Name
				checks(t, d, api.ErrName)
				d[i].Id = d[j].Id
				checks(t, d, api.ErrName)
				d[i].Name = "other"
				checks(t, d, api.ErrName)
				d[i].Id = 1000
				checks(t, d, api.OK)
			}
		}
	}
	// A name may begin like another one, and keys may be the same.
	checks(t, []api.Node{{Name: "ab", Id: 1}, {Name: "a", Id: 2}, {Name: "abc", Id: 3}}, api.OK)
}

// TestCheckOrder is of P9.1: of several errors the one with the least number, whichever comes first in the list.
func TestCheckOrder(t *testing.T) {
	twice := []api.Node{{Name: "a", Id: 1}, {Name: "a", Id: 2}}
	for _, bad := range []api.Node{{Name: "B", Id: 3}, {Name: "b"}, {}} {
		for i := range 3 {
			checks(t, slices.Insert(slices.Clone(twice), i, bad), api.ErrForm)
		}
	}
	checks(t, []api.Node{{Name: "A", Id: 1}, {Name: "A", Id: 1}}, api.ErrForm)
	checks(t, []api.Node{{}, {}}, api.ErrForm)
	d := many(65)
	d[64] = d[0]
	checks(t, d, api.ErrSize)
	d[0].Name = ""
	checks(t, d, api.ErrSize)
}

// TestFind is of P9.3: each node by its name.
func TestFind(t *testing.T) {
	for _, n := range []int{0, 1, 2, 64} {
		d := many(n)
		for _, want := range d {
			if got, e := Find(d, want.Name); e != api.OK || got != (Node{Node: want}) {
				t.Errorf("Find(%q) of %d nodes = %v, %v", want.Name, n, got, e)
			}
		}
		for _, name := range []string{"", "n", "N0", "n00", "n0 ", "n64", "m0", "n\xff", strings.Repeat("n", 17)} {
			if got, e := Find(d, name); e != api.ErrName || got != (Node{}) {
				t.Errorf("Find(%q) of %d nodes = %v, %v", name, n, got, e)
			}
		}
	}
}

// TestAt is of P9.3: each node by its number, which need not be its place.
func TestAt(t *testing.T) {
	for _, n := range []int{0, 1, 2, 64} {
		d := many(n)
		for i := range d {
			d[i].Id = uint64(i+1) << 57
		}
		for _, want := range d {
			if got, e := At(d, want.Id); e != api.OK || got != (Node{Node: want}) {
				t.Errorf("At(%d) of %d nodes = %v, %v", want.Id, n, got, e)
			}
		}
		for _, id := range []uint64{0, 1, 2, 64, 1<<57 - 1, 1<<57 + 1, math.MaxUint64} {
			if got, e := At(d, id); e != api.ErrName || got != (Node{}) {
				t.Errorf("At(%d) of %d nodes = %v, %v", id, n, got, e)
			}
		}
	}
}
