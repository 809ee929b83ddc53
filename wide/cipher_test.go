package wide

import (
	"fmt"
	"testing"

	"shallot/api"
)

// TestNew is of P7.4.
func TestNew(t *testing.T) {
	for _, key := range keysOf() {
		if c, e := New(key); e != api.OK || c.Key != [32]byte(key) {
			t.Errorf("New(%x) = %x, %v", key, c.Key, e)
		}
	}
	for _, key := range wrongKeys() {
		if c, e := New(key); e != api.ErrSize || c != (Cipher{}) {
			t.Errorf("New of %d bytes = %x, %v", len(key), c.Key, e)
		}
	}
}

// TestCipher is of P7.4: Seal and Open with its key, also with one that was set afterwards, and with that of the zero Cipher.
func TestCipher(t *testing.T) {
	made, _ := New(counting())
	set, _ := New(counting())
	set.Key = [32]byte(some(32))
	for _, c := range []Cipher{made, set, {Key: [32]byte(some(32))}, {}} {
		for _, size := range sizes() {
			name := fmt.Sprintf("%d bytes with the key %x", size, c.Key)
			sealed, e := c.Seal(some(size))
			is(t, "Seal of "+name, sealed, e, want(t, c.Key[:], some(size), 1, 2, 3, 4))
			open, e := c.Open(some(size))
			is(t, "Open of "+name, open, e, want(t, c.Key[:], some(size), 4, 3, 2, 1))
			back, e := c.Open(sealed)
			is(t, "Open of Seal of "+name, back, e, some(size))
		}
		for _, block := range wrongBlocks() {
			got, e := c.Seal(block)
			refused(t, fmt.Sprintf("Seal of %d bytes", len(block)), got, e, api.ErrSize)
			got, e = c.Open(block)
			refused(t, fmt.Sprintf("Open of %d bytes", len(block)), got, e, api.ErrSize)
		}
	}
}

// TestSealed is of P7.4: Plain is Open of its block, whatever that is; Seal, Open and Key are those of its cipher.
func TestSealed(t *testing.T) {
	for _, key := range keysOf() {
		c, _ := New(key)
		for _, size := range sizes() {
			block, _ := Seal(key, some(size))
			s := Sealed{Cipher: c, Block: block}
			got, e := s.Plain()
			is(t, "Plain", got, e, some(size))
			got, e = s.Seal(some(70))
			is(t, "Seal of a Sealed", got, e, want(t, key, some(70), 1, 2, 3, 4))
			got, e = s.Open(some(70))
			is(t, "Open of a Sealed", got, e, want(t, key, some(70), 4, 3, 2, 1))
			s.Key = [32]byte(some(32))
			got, e = s.Plain()
			is(t, "Plain with another key", got, e, want(t, some(32), block, 4, 3, 2, 1))
		}
		for _, block := range wrongBlocks() {
			got, e := Sealed{Cipher: c, Block: block}.Plain()
			refused(t, fmt.Sprintf("Plain of %d bytes", len(block)), got, e, api.ErrSize)
		}
	}
	got, e := Sealed{}.Plain()
	refused(t, "Plain of the zero Sealed", got, e, api.ErrSize)
	got, e = Sealed{Block: some(50)}.Plain()
	is(t, "Plain with the zero Cipher", got, e, want(t, make([]byte, 32), some(50), 4, 3, 2, 1))
}
