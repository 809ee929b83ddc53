package wide

import (
	"encoding/hex"
	"fmt"
	"slices"
	"testing"

	"shallot/api"
)

// TestAllKnown is of P7.3: what another program has made of 50 bytes with three keys.
func TestAllKnown(t *testing.T) {
	keys := [][]byte{counting(), make([]byte, 32), some(32)}
	sealed, e := SealAll(some(50), keys...)
	if e != api.OK || hex.EncodeToString(sealed) != "8e09bcb90667cce29c3e3ad6dc73c85d0a96434b92af3557f1423774d210bd7b2c003700af25eac2acadc6d09e54e49e789d" {
		t.Errorf("SealAll = %x, %v", sealed, e)
	}
	open, e := OpenAll(some(50), keys...)
	if e != api.OK || hex.EncodeToString(open) != "3d81e0fbd2c6aa30b65c62ec1890fb4be11f32472941c50018ebb39664a350942bcd2a73c718fceb96feead29b05d16bd42e" {
		t.Errorf("OpenAll = %x, %v", open, e)
	}
}

// TestAll is of P7.3: the keys in order, one behind the other, and in reverse order back, for any number of them.
func TestAll(t *testing.T) {
	for _, size := range sizes() {
		block := some(size)
		sealed, open := slices.Clone(block), slices.Clone(block)
		var keys [][]byte
		for n := range 6 {
			name := fmt.Sprintf("%d bytes with %d keys", size, n)
			got, e := SealAll(block, keys...)
			is(t, "SealAll of "+name, got, e, sealed)
			got, e = OpenAll(block, keys...)
			is(t, "OpenAll of "+name, got, e, open)
			back := slices.Clone(keys)
			slices.Reverse(back)
			got, e = OpenAll(sealed, back...)
			is(t, "OpenAll of SealAll of "+name, got, e, block)
			got, e = SealAll(open, back...)
			is(t, "SealAll of OpenAll of "+name, got, e, block)
			key := keysOf()[n%len(keysOf())] // some come twice
			keys = append(keys, key)
			sealed = want(t, key, sealed, 1, 2, 3, 4)
			open = want(t, key, open, 4, 3, 2, 1)
		}
	}
}

// TestAllRefuses is of P7.3: ErrSize for a key wherever it stands, and for the block, also without keys.
func TestAllRefuses(t *testing.T) {
	for name, call := range map[string]func(block []byte, keys ...[]byte) ([]byte, api.Errno){"SealAll": SealAll, "OpenAll": OpenAll} {
		for _, wrong := range wrongKeys() {
			for at := range 3 {
				keys := slices.Insert(keysOf()[:2], at, wrong)
				got, e := call(some(40), keys...)
				refused(t, fmt.Sprintf("%s with the key %d of %d bytes", name, at, len(wrong)), got, e, api.ErrSize)
			}
			got, e := call(nil, wrong)
			refused(t, fmt.Sprintf("%s of nothing with a key of %d bytes", name, len(wrong)), got, e, api.ErrSize)
		}
		for _, block := range wrongBlocks() {
			for n := range 3 {
				got, e := call(block, keysOf()[:n]...)
				refused(t, fmt.Sprintf("%s of %d bytes with %d keys", name, len(block), n), got, e, api.ErrSize)
			}
		}
	}
}
