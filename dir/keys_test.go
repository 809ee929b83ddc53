package dir

import (
	"crypto/ecdh"
	"crypto/hkdf"
	"crypto/sha256"
	"encoding/hex"
	"slices"
	"strconv"
	"strings"
	"testing"

	"shallot/api"
)

// made returns what Make makes without an error.
func made(t *testing.T, seed string, names ...string) []api.Node {
	t.Helper()
	d, e := Make([]byte(seed), names...)
	if e != api.OK {
		t.Fatalf("Make(%q, %q): %v", seed, names, e)
	}
	return d
}

// belong asks whether the keys of a directory without errors belong together.
func belong(t *testing.T, d []api.Node, want bool) {
	t.Helper()
	if ok, e := Fits(d); e != api.OK || ok != want {
		t.Errorf("Fits(%x) = %v, %v", d, ok, e)
	}
}

// TestFits is of P9.1: the standard's pairs of keys, and any bit of them changed.
func TestFits(t *testing.T) {
	pairs := [][2]string{
		{"77076d0a7318a57d3c16c17251b26645df4c2f87ebc0992ab177fba51db92c2a", "8520f0098930a754748b7ddcb43ef75a0dbf3a0d26381af4eba4a98eaa9b4e6a"},
		{"5dab087e624a8a4b79e17f8b83800ee66f3bb1292618b6fd1c2f8b27ff88e0eb", "de9edb7d7b7dc1b4d35b61c2ece435373f8343c85b78674dadfc7e146f882b4f"},
	}
	d := many(2)
	for i, p := range pairs {
		priv, _ := hex.DecodeString(p[0])
		pub, _ := hex.DecodeString(p[1])
		d[i].Priv, d[i].Pub = [32]byte(priv), [32]byte(pub)
	}
	belong(t, nil, true)
	belong(t, []api.Node{}, true)
	belong(t, d, true)
	belong(t, d[1:], true)
	for bit := range 256 {
		one := slices.Clone(d)
		one[bit%2].Pub[bit/8] ^= 1 << (bit % 8)
		belong(t, one, false)
	}
	for bit := range 256 {
		one := slices.Clone(d)
		one[bit%2].Priv[bit/8] ^= 1 << (bit % 8)
		belong(t, one, bit < 3 || bit > 253) // which a scalar fixes
	}
	d[0].Pub, d[1].Pub = d[1].Pub, d[0].Pub
	belong(t, d, false)
	belong(t, many(1), false)
	belong(t, []api.Node{{Name: "a", Id: 1}}, false)
}

// TestMakeExamples is of P9.2: the document's examples, with keys made apart.
func TestMakeExamples(t *testing.T) {
	d := made(t, "s", "bob", "al")
	for i, want := range [][3]string{
		{"bob", "59656ed09d9e83a0b2c6e5c92a87d68e342e17055551786e44e1bc8864388461", "c27134c2c28b7e510b6df27d9a19970c4891af7a04cccde20216d520986d3e09"},
		{"al", "dff9635f89c7522bcf2d2dffc565ba639d0759149cbf22e3726d3aaec018076f", "ff9dc04986e0fbdbfdb0f60198b83e530094b424bf71e518cfba8117a9098006"},
	} {
		n := d[i]
		if n.Name != want[0] || n.Id != uint64(i+1) || hex.EncodeToString(n.Priv[:]) != want[1] || hex.EncodeToString(n.Pub[:]) != want[2] {
			t.Errorf("Make makes %q, %d, %x, %x of %v", n.Name, n.Id, n.Priv, n.Pub, want)
		}
	}
	if d, e := Make([]byte("s")); len(d) != 0 || e != api.OK {
		t.Errorf("Make without names = %v, %v", d, e)
	}
}

// libraryNode returns what the library says of a node's keys.
func libraryNode(t *testing.T, seed []byte, name string, id int) api.Node {
	t.Helper()
	root, err := hkdf.Extract(sha256.New, seed, []byte("node"))
	if err != nil {
		t.Fatal(err)
	}
	priv, err := hkdf.Expand(sha256.New, root, name, 32)
	if err != nil {
		t.Fatal(err)
	}
	key, err := ecdh.X25519().NewPrivateKey(priv)
	if err != nil {
		t.Fatal(err)
	}
	return api.Node{Name: name, Id: uint64(id), Priv: [32]byte(priv), Pub: [32]byte(key.PublicKey().Bytes())}
}

// TestMake is of P9.2: seeds and names of all lengths, against the library; the result passes Check and Fits.
func TestMake(t *testing.T) {
	for _, n := range []int{0, 1, 31, 32, 63, 64, 65, 300} {
		seed := slices.Repeat([]byte{byte(n), 5}, n)[:n]
		var names []string
		for i := range 16 {
			names = append(names, strings.Repeat("x", i)+"a")
		}
		d, e := Make(seed, names...)
		if e != api.OK || len(d) != len(names) {
			t.Fatalf("Make with a seed of %d bytes: %d nodes, %v", n, len(d), e)
		}
		for i, name := range names {
			if d[i] != libraryNode(t, seed, name, i+1) {
				t.Errorf("Make with a seed of %d bytes makes %x of %q", n, d[i], name)
			}
		}
		checks(t, d, api.OK)
		belong(t, d, true)
	}
}

// TestMakePlaces is of P9.2: the keys hang on the name, not on the place.
func TestMakePlaces(t *testing.T) {
	var names []string
	for i := range 64 {
		names = append(names, "n"+strconv.Itoa(i))
	}
	d := made(t, "", names...)
	checks(t, d, api.OK)
	belong(t, d, true)
	slices.Reverse(names)
	back := made(t, "", names...)
	for i, n := range back {
		want := d[63-i]
		want.Id = uint64(i + 1)
		if n != want {
			t.Errorf("Make makes %v and %v", want, n)
		}
	}
	if made(t, "1", "a")[0].Priv == made(t, "2", "a")[0].Priv {
		t.Errorf("two seeds make one key")
	}
	none, e := Make(nil, "a")
	if e != api.OK || !slices.Equal(none, made(t, "", "a")) {
		t.Errorf("Make without a seed = %v, %v", none, e)
	}
}

// TestMakeRefuses is of P9.2: the errors of Check, of several the one with the least number.
func TestMakeRefuses(t *testing.T) {
	lots := make([]string, 65)
	for i := range lots {
		lots[i] = "n" + strconv.Itoa(i)
	}
	for _, c := range []struct {
		names []string
		want  api.Errno
	}{
		{[]string{"b", "b"}, api.ErrName},
		{[]string{"b", "c", "d", "b"}, api.ErrName},
		{[]string{"B", "B"}, api.ErrForm},
		{[]string{"b", "b", "B"}, api.ErrForm},
		{[]string{""}, api.ErrForm},
		{[]string{"b", "1"}, api.ErrForm},
		{[]string{strings.Repeat("b", 17)}, api.ErrForm},
		{lots, api.ErrSize},
		{make([]string, 65), api.ErrSize},
		{make([]string, 1<<20), api.ErrSize},
	} {
		if d, e := Make([]byte("s"), c.names...); len(d) != 0 || e != c.want {
			t.Errorf("Make of %d names = %v, %v, not %v", len(c.names), d, e, c.want)
		}
	}
}

// TestKeys is of P9.3: the keys of a node as lists.
func TestKeys(t *testing.T) {
	n := Node{Node: made(t, "s", "bob")[0]}
	for _, n := range []Node{n, {}, {Node: many(9)[8]}} {
		if !slices.Equal(n.Public(), n.Pub[:]) || !slices.Equal(n.Private(), n.Priv[:]) {
			t.Errorf("the keys of %v: %x and %x", n, n.Public(), n.Private())
		}
	}
}
