package mac

import (
	"crypto/hkdf"
	"crypto/hmac"
	"crypto/sha256"
	"encoding/hex"
	"math"
	"slices"
	"strings"
	"testing"

	"shallot/api"
)

// some returns n bytes of a pattern that does not repeat with the blocks.
func some(n int) []byte {
	b := make([]byte, n)
	for i := range b {
		b[i] = byte(i*i + 7*i + i>>8 + 3)
	}
	return b
}

func unhex(t *testing.T, s string) []byte {
	t.Helper()
	b, err := hex.DecodeString(s)
	if err != nil {
		t.Fatal(err)
	}
	return b
}

// libraryTag returns what the library says of a tag.
func libraryTag(key, data []byte) [32]byte {
	h := hmac.New(sha256.New, key)
	h.Write(data)
	return [32]byte(h.Sum(nil))
}

// keySizes are around the length of a block, from which on a key is hashed, and far beyond it.
var keySizes = []int{0, 1, 20, 31, 32, 33, 63, 64, 65, 66, 127, 128, 129, 131, 1000}

// TestTagExamples is of P3.1: the document's example, and those of the standard.
func TestTagExamples(t *testing.T) {
	for _, c := range []struct {
		key  []byte
		data string
		want string
	}{
		{[]byte("Jefe"), "what do ya want for nothing?", "5bdcc146bf60754e6a042426089575c75a003f089d2739839dec58b964ec3843"},
		{nil, "", "b613679a0814d9ec772f95d778c35fc5ff1697c493715653c6c712144292c5ad"},
		{slices.Repeat([]byte{0x0b}, 20), "Hi There", "b0344c61d8db38535ca8afceaf0bf12b881dc200c9833da726e9376c2e32cff7"},
		{slices.Repeat([]byte{0xaa}, 20), strings.Repeat("\xdd", 50), "773ea91e36800e46854db8ebd09181a72959098b3ef8c122d9635514ced565fe"},
		{slices.Repeat([]byte{0xaa}, 131), "Test Using Larger Than Block-Size Key - Hash Key First", "60e431591ee0b67f0d8a26aacbf5b77f8e0bc6213728c5140546040f0ee37f54"},
	} {
		if got := Tag(c.key, []byte(c.data)); hex.EncodeToString(got[:]) != c.want {
			t.Errorf("Tag(%x, %q) = %x", c.key, c.data, got)
		}
	}
	if Tag(nil) != Tag([]byte{}, nil) || Tag(nil) != Tag(make([]byte, 64), []byte{}, nil) {
		t.Errorf("tags of nothing differ")
	}
}

// TestTagKeys is of P3.1: keys and data of all lengths, against the library.
func TestTagKeys(t *testing.T) {
	for _, k := range keySizes {
		for _, n := range []int{0, 1, 55, 56, 63, 64, 65, 200} {
			key, data := some(k), some(n + 5)[5:]
			if got := Tag(key, data); got != libraryTag(key, data) {
				t.Errorf("Tag of %d bytes with a key of %d = %x", n, k, got)
			}
		}
	}
	long := some(65)
	sum := sha256.Sum256(long)
	if Tag(long, some(9)) != Tag(sum[:], some(9)) || Tag(long[:64], some(9)) == Tag(long, some(9)) {
		t.Errorf("a key of 65 bytes is not its hash")
	}
}

// TestTagParts is of P3.1: how the bytes are divided does not matter.
func TestTagParts(t *testing.T) {
	key, b := some(40), some(150)
	want := libraryTag(key, b)
	for i := range len(b) + 1 {
		half := (i + len(b)) / 2
		if got := Tag(key, b[:i], nil, b[i:half], []byte{}, b[half:]); got != want {
			t.Errorf("Tag divided at %d and %d = %x", i, half, got)
		}
		if got := Short(key, b[:i], b[i:]); !slices.Equal(got, want[:16]) {
			t.Errorf("Short divided at %d = %x", i, got)
		}
		if !Check(key, want[:16], b[:i], nil, b[i:]) {
			t.Errorf("Check divided at %d", i)
		}
	}
}

// TestShort is of P3.1.
func TestShort(t *testing.T) {
	if got := Short([]byte("Jefe"), []byte("what do ya want for nothing?")); hex.EncodeToString(got) != "5bdcc146bf60754e6a042426089575c7" {
		t.Errorf("Short = %x", got)
	}
	for _, k := range keySizes {
		full := libraryTag(some(k), some(10))
		if got := Short(some(k), some(10)); !slices.Equal(got, full[:16]) {
			t.Errorf("Short with a key of %d bytes = %x", k, got)
		}
	}
	none := libraryTag(nil, nil)
	if got := Short(nil); !slices.Equal(got, none[:16]) {
		t.Errorf("Short of nothing = %x", got)
	}
}

// TestCheck is of P3.1: only the short tag fits.
func TestCheck(t *testing.T) {
	key, data := []byte("Jefe"), []byte("what do ya want for nothing?")
	full := libraryTag(key, data)
	for n := range len(full) + 1 {
		if got := Check(key, full[:n], data); got != (n == 16) {
			t.Errorf("Check of the first %d bytes: %v", n, got)
		}
	}
	for bit := range 16 * 8 {
		tag := slices.Clone(full[:16])
		tag[bit/8] ^= 1 << (bit % 8)
		if Check(key, tag, data) {
			t.Errorf("Check with the bit %d changed", bit)
		}
	}
	if Check(key, nil, data) || Check(key, full[16:], data) || Check(key, make([]byte, 16), data) {
		t.Errorf("Check of no tag at all")
	}
	if Check([]byte("jefe"), full[:16], data) || Check(key, full[:16], data, []byte{0}) || Check(key, full[:16]) {
		t.Errorf("Check with another key or other parts")
	}
	none := libraryTag(nil, nil)
	if !Check(nil, none[:16]) || !Check([]byte{}, none[:16], nil) {
		t.Errorf("Check of nothing")
	}
}

// TestExtract is of P3.2: the standard's example, and salts of all lengths.
func TestExtract(t *testing.T) {
	secret := slices.Repeat([]byte{0x0b}, 22)
	got := Extract(unhex(t, "000102030405060708090a0b0c"), secret)
	if hex.EncodeToString(got[:]) != "077709362c2e32df0ddc3f0dc47bba6390b6c73bb50f9c3122ec844ad7c2b3e5" {
		t.Errorf("Extract = %x", got)
	}
	got = Extract(nil, secret)
	if hex.EncodeToString(got[:]) != "19ef24a32c717b167f33a91d6f648bdf96596776afdb6377ac434c1c293ccb04" {
		t.Errorf("Extract without a salt = %x", got)
	}
	for _, n := range keySizes {
		salt, secret := some(n), some(n + 3)[3:]
		if got := Extract(salt, secret); got != libraryTag(salt, secret) || got != Tag(salt, secret) {
			t.Errorf("Extract with a salt of %d bytes = %x", n, got)
		}
	}
}

// TestExpandExamples is of P3.2: the examples of the document and of the standard.
func TestExpandExamples(t *testing.T) {
	for _, c := range []struct{ key, info, want string }{
		{"077709362c2e32df0ddc3f0dc47bba6390b6c73bb50f9c3122ec844ad7c2b3e5", "f0f1f2f3f4f5f6f7f8f9", "3cb25f25faacd57a90434f64d0362f2a2d2d0a90cf1a5a4c5db02d56ecc4c5bf34007208d5b887185865"},
		{"19ef24a32c717b167f33a91d6f648bdf96596776afdb6377ac434c1c293ccb04", "", "8da4e775a563c18f715f802a063c5a31b8a11f5c5ee1879ec3454e5f3c738d2d9d201395faa4b61a96c8"},
	} {
		key, info, want := unhex(t, c.key), unhex(t, c.info), unhex(t, c.want)
		if got, e := Expand(key, len(want), info); e != api.OK || !slices.Equal(got, want) {
			t.Errorf("Expand(%s, %d, %s) = %x, %v", c.key, len(want), c.info, got, e)
		}
	}
}

// TestExpandLengths is of P3.2: lengths around the ends of the tags, up to the greatest, against the library.
func TestExpandLengths(t *testing.T) {
	for _, k := range []int{0, 1, 32, 64, 65} {
		key, info := some(k), some(70)
		for _, n := range []int{0, 1, 31, 32, 33, 63, 64, 65, 96, 1000, 8127, 8128, 8129, 8159, 8160} {
			want, err := hkdf.Expand(sha256.New, key, string(info), n)
			if err != nil {
				t.Fatal(err)
			}
			if got, e := Expand(key, n, info); e != api.OK || !slices.Equal(got, want) {
				t.Errorf("Expand of %d bytes with a key of %d: %v", n, k, e)
			}
		}
	}
}

// TestExpandParts is of P3.2: how the info is divided does not matter.
func TestExpandParts(t *testing.T) {
	key, info := some(32), some(90)
	want, _ := Expand(key, 100, info)
	for i := range len(info) + 1 {
		if got, e := Expand(key, 100, info[:i], nil, info[i:]); e != api.OK || !slices.Equal(got, want) {
			t.Errorf("Expand with the info divided at %d = %x, %v", i, got, e)
		}
	}
	none, _ := Expand(key, 100)
	if got, e := Expand(key, 100, nil, []byte{}); e != api.OK || !slices.Equal(got, none) || slices.Equal(got, want) {
		t.Errorf("Expand without an info = %x, %v", got, e)
	}
}

// TestExpandRefuses is of P3.2.
func TestExpandRefuses(t *testing.T) {
	for _, n := range []int{-1, -32, math.MinInt, 8161, 8192, math.MaxInt} {
		if got, e := Expand(some(32), n, some(3)); e != api.ErrArg || len(got) != 0 {
			t.Errorf("Expand of %d bytes: %d bytes, %v", n, len(got), e)
		}
	}
}

// TestDerive is of P3.3: each label's key, in order, against the library.
func TestDerive(t *testing.T) {
	for _, n := range keySizes {
		secret := some(n)
		labels := []string{"a", "", "mac", "a", strings.Repeat("long", 40), "\xff\x00"}
		root, err := hkdf.Extract(sha256.New, secret, []byte("shallot"))
		if err != nil {
			t.Fatal(err)
		}
		got := Derive(secret, labels...)
		if len(got) != len(labels) {
			t.Fatalf("Derive: %d keys for %d labels", len(got), len(labels))
		}
		for i, label := range labels {
			want, err := hkdf.Expand(sha256.New, root, label, 32)
			if err != nil {
				t.Fatal(err)
			}
			if !slices.Equal(got[i][:], want) {
				t.Errorf("Derive of %d bytes, label %q = %x", n, label, got[i])
			}
			if one := Derive(secret, label); len(one) != 1 || one[0] != got[i] {
				t.Errorf("Derive with the label %q alone = %x", label, one)
			}
		}
	}
}

// TestDeriveLabels is of P3.3: no labels, the same one twice, and labels that joined are the same.
func TestDeriveLabels(t *testing.T) {
	secret := some(32)
	if got := Derive(secret); len(got) != 0 {
		t.Errorf("Derive without labels = %x", got)
	}
	if got := Derive(secret, "a", "a"); len(got) != 2 || got[0] != got[1] {
		t.Errorf("Derive of a label twice = %x", got)
	}
	one, two := Derive(secret, "ab", "c"), Derive(secret, "a", "bc")
	if one[0] == one[1] || one[0] == two[0] || one[1] == two[1] {
		t.Errorf("Derive of unlike labels = %x, %x", one, two)
	}
	if Derive(some(31), "a")[0] == Derive(secret, "a")[0] {
		t.Errorf("Derive of unlike secrets")
	}
}
