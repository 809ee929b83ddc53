package keys_test

import (
	"crypto/ecdh"
	"crypto/hkdf"
	"crypto/sha256"
	"encoding/hex"
	"slices"
	"testing"

	"shallot/api"
	"shallot/keys"
)

// labels are those of the keys, in the order in which api.Keys has them.
var labels = []string{"mac", "stream", "pay", "blind"}

// mixed returns 32 bytes that hang on n.
func mixed(n int) []byte {
	b := sha256.Sum256([]byte{byte(n), byte(n >> 8)})
	return b[:]
}

// unhex returns the 32 bytes of which s has the digits.
func unhex(t *testing.T, s string) [32]byte {
	t.Helper()
	b, err := hex.DecodeString(s)
	if err != nil || len(b) != 32 {
		t.Fatalf("%q: %v", s, err)
	}
	return [32]byte(b)
}

// raised returns the point with its highest bit changed, which doesn't count.
func raised(u []byte) []byte {
	out := slices.Clone(u)
	out[31] ^= 0x80
	return out
}

// lows returns points that no secret can be made with: all that the curve has, in all ways to write them.
func lows(t *testing.T) [][]byte {
	t.Helper()
	var out [][]byte
	for _, s := range []string{
		"0000000000000000000000000000000000000000000000000000000000000000",
		"0100000000000000000000000000000000000000000000000000000000000000",
		"ecffffffffffffffffffffffffffffffffffffffffffffffffffffffffffff7f",
		"edffffffffffffffffffffffffffffffffffffffffffffffffffffffffffff7f",
		"eeffffffffffffffffffffffffffffffffffffffffffffffffffffffffffff7f",
		"e0eb7a7c3b41b8ae1656e3faf19fc46ada098deb9c32b1fd866205165f49b800",
		"5f9c95bca3508c24b1d0b1559c83ef5b04445cc4581c8e86d8224eddd09f1157",
	} {
		u := unhex(t, s)
		out = append(out, u[:], raised(u[:]))
	}
	return out
}

// wrongs returns lists that don't have the length of a key.
func wrongs() [][]byte {
	var out [][]byte
	for _, n := range []int{0, 1, 16, 31, 33, 64, 1000} {
		out = append(out, make([]byte, n), slices.Repeat([]byte{9}, n))
	}
	return append(out, nil)
}

// product returns the library's product of a scalar and a point, which must not be 0.
func product(t *testing.T, k, u []byte) [32]byte {
	t.Helper()
	private, err := ecdh.X25519().NewPrivateKey(k)
	if err != nil {
		t.Fatal(err)
	}
	public, err := ecdh.X25519().NewPublicKey(u)
	if err != nil {
		t.Fatal(err)
	}
	out, err := private.ECDH(public)
	if err != nil {
		t.Fatalf("%x times %x: %v", k, u, err)
	}
	return [32]byte(out)
}

// public returns the library's public key.
func public(t *testing.T, k []byte) [32]byte {
	t.Helper()
	private, err := ecdh.X25519().NewPrivateKey(k)
	if err != nil {
		t.Fatal(err)
	}
	return [32]byte(private.PublicKey().Bytes())
}

// derived returns the keys that the library makes of a secret.
func derived(t *testing.T, secret []byte) api.Keys {
	t.Helper()
	var k api.Keys
	for i, to := range []*[32]byte{&k.Mac, &k.Stream, &k.Pay, &k.Blind} {
		b, err := hkdf.Key(sha256.New, secret, []byte("shallot"), labels[i], 32)
		if err != nil {
			t.Fatal(err)
		}
		*to = [32]byte(b)
	}
	return k
}

// TestOfExample is of P12.1: keys made apart.
func TestOfExample(t *testing.T) {
	secret := make([]byte, 32)
	for i := range secret {
		secret[i] = byte(i)
	}
	want := api.Keys{
		Mac:    unhex(t, "20727ba823500c7937e28eca1b118919bac26c05827b36518f155012bb4b44d3"),
		Stream: unhex(t, "6aa278c0c06955083b2de10f7f6e6f8a4fbe71050a6d6fa4638a944452613fe1"),
		Pay:    unhex(t, "8ebde9dca6b57f3f96ac12c27bd98b0341bca58614213ee7ed2e28c4e13380df"),
		Blind:  unhex(t, "81c3874ba9e66123f2b8c0d5f611cea345ae94ea8673921c8df8661dced30e0c"),
	}
	if k, e := keys.Of(secret); e != api.OK || k != want {
		t.Errorf("Of(%x) = %x, %v", secret, k, e)
	}
}

// TestOf is of P12.1: any secret, against the library.
func TestOf(t *testing.T) {
	secrets := [][]byte{make([]byte, 32), slices.Repeat([]byte{255}, 32)}
	for i := range 50 {
		secrets = append(secrets, mixed(i))
	}
	for at := range 32 {
		b := make([]byte, 32)
		b[at] = 0x80
		secrets = append(secrets, b)
	}
	for _, s := range secrets {
		if k, e := keys.Of(s); e != api.OK || k != derived(t, s) {
			t.Errorf("Of(%x) = %x, %v", s, k, e)
		}
	}
}

// TestOfRefuses is of P12.1: every other length.
func TestOfRefuses(t *testing.T) {
	for n := range 100 {
		k, e := keys.Of(slices.Repeat([]byte{7}, n))
		if n != 32 && (e != api.ErrSize || k != api.Keys{}) || n == 32 && e != api.OK {
			t.Errorf("Of %d bytes = %x, %v", n, k, e)
		}
	}
	if k, e := keys.Of(nil); e != api.ErrSize || k != (api.Keys{}) {
		t.Errorf("Of(nil) = %x, %v", k, e)
	}
}

// TestNext is of P12.2: the product of Blind and Alpha, whatever else the step has.
func TestNext(t *testing.T) {
	for i := range 20 {
		s := keys.Step{Alpha: [32]byte(mixed(i))}
		s.Blind = [32]byte(mixed(100 + i))
		want := product(t, s.Blind[:], s.Alpha[:])
		if got, e := s.Next(); e != api.OK || got != want {
			t.Errorf("Next of %x = %x, %v", s, got, e)
		}
		s.Secret, s.Mac, s.Stream, s.Pay = [32]byte{1}, [32]byte{2}, [32]byte{3}, [32]byte{4}
		was := s
		if got, e := s.Next(); e != api.OK || got != want || s != was {
			t.Errorf("Next of %x = %x, %v", s, got, e)
		}
	}
}

// TestNextZero is of P12.2: low public values, those of a step that no function made.
func TestNextZero(t *testing.T) {
	for i, u := range lows(t) {
		s := keys.Step{Alpha: [32]byte(u)}
		for _, blind := range [][]byte{make([]byte, 32), mixed(i)} {
			s.Blind = [32]byte(blind)
			if got, e := s.Next(); e != api.ErrZero || got != ([32]byte{}) {
				t.Errorf("Next of %x = %x, %v", s, got, e)
			}
		}
	}
	if got, e := (keys.Step{}).Next(); e != api.ErrZero || got != ([32]byte{}) {
		t.Errorf("Next of the zero Step = %x, %v", got, e)
	}
}

// TestPeelRefuses is of P12.3: wrong lengths, and low public values; of both errors the one with the least number.
func TestPeelRefuses(t *testing.T) {
	refused := func(priv, alpha []byte, want api.Errno) {
		t.Helper()
		if s, e := keys.Peel(priv, alpha); e != want || s != (keys.Step{}) {
			t.Errorf("Peel(%x, %x) = %x, %v, not %v", priv, alpha, s, e, want)
		}
	}
	for _, b := range wrongs() {
		refused(b, mixed(1), api.ErrSize)
		refused(b, make([]byte, 32), api.ErrSize)
		refused(mixed(1), b, api.ErrSize)
		refused(b, b, api.ErrSize)
	}
	for i, u := range lows(t) {
		refused(mixed(i), u, api.ErrZero)
		refused(make([]byte, 32), u, api.ErrZero)
	}
}

// TestPeelAny is of P12.3: any private key and public value, which no Schedule made, and whose highest bit does not count but stays.
func TestPeelAny(t *testing.T) {
	for i := range 30 {
		priv, alpha := mixed(i), mixed(200+i)
		secret := product(t, priv, alpha)
		for _, a := range [][]byte{alpha, raised(alpha)} {
			want := keys.Step{Keys: derived(t, secret[:]), Alpha: [32]byte(a), Secret: secret}
			if s, e := keys.Peel(priv, a); e != api.OK || s != want {
				t.Errorf("Peel(%x, %x) = %x, %v", priv, a, s, e)
			}
		}
	}
}

// TestPays is of P12.4: the keys of any steps, in their order.
func TestPays(t *testing.T) {
	var steps []keys.Step
	for n := range 9 {
		list := keys.Pays(steps...)
		if len(list) != n {
			t.Errorf("Pays of %d steps: %d keys", n, len(list))
		}
		for i, b := range list {
			if !slices.Equal(b, steps[i].Pay[:]) || !slices.Equal(b, mixed(i%7)) {
				t.Errorf("Pays of %d steps: key %d is %x", n, i, b)
			}
		}
		var s keys.Step
		s.Mac, s.Stream, s.Pay, s.Blind = [32]byte{1}, [32]byte{2}, [32]byte(mixed(n%7)), [32]byte{4}
		s.Alpha, s.Secret = [32]byte{5}, [32]byte{6}
		steps = append(steps, s)
	}
	if list := keys.Pays(keys.Step{}); len(list) != 1 || !slices.Equal(list[0], make([]byte, 32)) {
		t.Errorf("Pays of the zero Step = %x", list)
	}
}

// TestPromoted is of P12.4: the keys of a step are those of the Keys inside.
func TestPromoted(t *testing.T) {
	k := derived(t, mixed(1))
	s := keys.Step{Keys: k}
	if s.Mac != k.Mac || s.Stream != k.Stream || s.Pay != k.Pay || s.Blind != k.Blind {
		t.Errorf("the keys of %x", s)
	}
	s.Mac, s.Blind = k.Blind, k.Mac
	if s.Keys != (api.Keys{Mac: k.Blind, Stream: k.Stream, Pay: k.Pay, Blind: k.Mac}) {
		t.Errorf("the keys of %x", s)
	}
}
