package chacha

import (
	"bytes"
	"crypto/sha256"
	"encoding/hex"
	"math"
	"slices"
	"testing"

	"shallot/api"
)

// some returns n bytes of a pattern that does not repeat with the blocks.
func some(n int) []byte {
	b := make([]byte, n)
	for i := range b {
		b[i] = byte(i*i + 7*i + i>>8 + 3)
	}
	return b
}

func unhex(t *testing.T, s string) []byte {
	t.Helper()
	b, err := hex.DecodeString(s)
	if err != nil {
		t.Fatal(err)
	}
	return b
}

// counting returns the bytes 0, 1, .. 31.
func counting() []byte {
	key := make([]byte, 32)
	for i := range key {
		key[i] = byte(i)
	}
	return key
}

// wrongKeys are as long as no key is.
func wrongKeys() [][]byte {
	return [][]byte{nil, {}, {1}, make([]byte, 16), make([]byte, 31), make([]byte, 33), make([]byte, 64)}
}

// whole returns a key's stream of MaxStream bytes, from Block.
func whole(t *testing.T, key []byte) []byte {
	t.Helper()
	var out []byte
	for counter := range uint32(api.MaxStream / 64) {
		b, e := Block(key, make([]byte, 12), counter)
		if e != api.OK || len(b) != 64 {
			t.Fatalf("Block of the counter %d: %d bytes, %v", counter, len(b), e)
		}
		out = append(out, b...)
	}
	return out
}

func xored(a, b []byte) []byte {
	out := slices.Clone(a)
	for i := range out {
		out[i] ^= b[i]
	}
	return out
}

// TestQuarter is of P4.1: the examples of the document and of the standard, and a sum that passes 2^32.
func TestQuarter(t *testing.T) {
	for _, c := range []struct{ in, want [4]uint32 }{
		{[4]uint32{0x11111111, 0x01020304, 0x9b8d6f43, 0x01234567}, [4]uint32{0xea2a92f4, 0xcb1cf8ce, 0x4581472e, 0x5881c4bb}},
		{[4]uint32{0x516461b1, 0x2a5f714c, 0x53372767, 0x3d631689}, [4]uint32{0xbdb886dc, 0xcfacafd2, 0xe46bea80, 0xccc07c79}},
		{[4]uint32{}, [4]uint32{}},
		{[4]uint32{0xffffffff, 1, 0, 0}, [4]uint32{0x00001000, 0x08080000, 0x00100000, 0x00100000}},
	} {
		if a, b, c2, d := Quarter(c.in[0], c.in[1], c.in[2], c.in[3]); [4]uint32{a, b, c2, d} != c.want {
			t.Errorf("Quarter(%08x) = %08x", c.in, [4]uint32{a, b, c2, d})
		}
	}
}

// TestBlock is of P4.1: blocks of many keys, nonces and counters, which another program has made.
func TestBlock(t *testing.T) {
	zero := make([]byte, 32)
	back := counting()
	slices.Reverse(back)
	for _, c := range []struct {
		key     []byte
		nonce   string
		counter uint32
		want    string
	}{
		{zero, "000000000000000000000000", 0, "76b8e0ada0f13d90405d6ae55386bd28bdd219b8a08ded1aa836efcc8b770dc7da41597c5157488d7724e03fb8d84a376a43b8f41518a11cc387b669b2ee6586"},
		{zero, "000000000000000000000000", 1, "9f07e7be5551387a98ba977c732d080dcb0f29a048e3656912c6533e32ee7aed29b721769ce64e43d57133b074d839d531ed1f28510afb45ace10a1f4b794d6f"},
		{append(make([]byte, 31), 1), "000000000000000000000000", 1, "3aeb5224ecf849929b9d828db1ced4dd832025e8018b8160b82284f3c949aa5a8eca00bbb4a73bdad192b5c42f73f2fd4e273644c8b36125a64addeb006c13a0"},
		{append([]byte{0, 255}, make([]byte, 30)...), "000000000000000000000000", 2, "72d54dfbf12ec44b362692df94137f328fea8da73990265ec1bbbea1ae9af0ca13b25aa26cb4a648cb9b9d1be65b2c0924a66c54d545ec1b7374f4872e99f096"},
		{zero, "000000000000000000000002", 0, "c2c64d378cd536374ae204b9ef933fcd1a8b2288b3dfa49672ab765b54ee27c78a970e0e955c14f3a88e741b97c286f75f8fc299e8148362fa198a39531bed6d"},
		{counting(), "000000090000004a00000000", 1, "10f1e7e4d13b5915500fdd1fa32071c4c7d1f4c733c068030422aa9ac3d46c4ed2826446079faa0914c2d705d98b02a2b5129cd1de164eb9cbd083e8a2503c4e"},
		{counting(), "000000000000004a00000000", 1, "224f51f3401bd9e12fde276fb8631ded8c131f823d2c06e27e4fcaec9ef3cf788a3b0aa372600a92b57974cded2b9334794cba40c63e34cdea212c4cf07d41b7"},
		{bytes.Repeat([]byte{255}, 32), "ffffffffffffffffffffffff", math.MaxUint32, "d72b21cfa4b6b0c41d61f62b8a11159c6a4f63bc56c2035796c7ad37811121bbec56d54a530f3a933dd28a50feb23bfaf64f405be985f3718bdf4683e96be749"},
		{back, "000102030405060708090a0b", 1 << 31, "9e085851818591cc5a1fb6d4356cbf93163352f26e927ed87690d0a4d55a45084a038b55f02e479e62fd09b1e07a6d2de3e3c6539d37638db16386477e1e5606"},
	} {
		if got, e := Block(c.key, unhex(t, c.nonce), c.counter); e != api.OK || hex.EncodeToString(got) != c.want {
			t.Errorf("Block(%x, %s, %d) = %x, %v", c.key, c.nonce, c.counter, got, e)
		}
	}
}

// TestBlockRefuses is of P4.1: a key or a nonce of another length, or both.
func TestBlockRefuses(t *testing.T) {
	for _, key := range wrongKeys() {
		for _, nonce := range [][]byte{nil, make([]byte, 12)} {
			if got, e := Block(key, nonce, 0); e != api.ErrSize || len(got) != 0 {
				t.Errorf("Block of a key of %d bytes = %x, %v", len(key), got, e)
			}
		}
	}
	for _, n := range []int{0, 1, 8, 11, 13, 24, 32} {
		if got, e := Block(make([]byte, 32), make([]byte, n), 0); e != api.ErrSize || len(got) != 0 {
			t.Errorf("Block of a nonce of %d bytes = %x, %v", n, got, e)
		}
	}
	if got, e := Block(make([]byte, 12), make([]byte, 32), 0); e != api.ErrSize || len(got) != 0 {
		t.Errorf("Block of a key for a nonce = %x, %v", got, e)
	}
}

// TestStreamWhole is of P4.2: all bytes of a stream, whose sums another program has made.
func TestStreamWhole(t *testing.T) {
	for _, c := range []struct {
		key        []byte
		begin, sum string
	}{
		{make([]byte, 32), "76b8e0ada0f13d90", "7fa8aa6c7eb97ac15922d5ae8adac5a228a4d2386a76f148d1407ad876b889da"},
		{counting(), "39fd2b7dd9c5196a", "4eac79ef7b5abe25b165ec416b302bfd422946a7bd7afc84c144937d1f561ce1"},
	} {
		s, e := Stream(c.key, api.MaxStream)
		if e != api.OK || len(s) != api.MaxStream {
			t.Errorf("Stream of MaxStream bytes: %d, %v", len(s), e)
			continue
		}
		sum := sha256.Sum256(s)
		if hex.EncodeToString(s[:8]) != c.begin || hex.EncodeToString(sum[:]) != c.sum || !slices.Equal(s, whole(t, c.key)) {
			t.Errorf("the stream of %x begins with %x, its sum is %x", c.key, s[:8], sum)
		}
	}
}

// TestStreamLengths is of P4.2: each length is the beginning of the stream.
func TestStreamLengths(t *testing.T) {
	key := some(32)
	all := whole(t, key)
	lengths := []int{1000, 4096, api.MaxStream - 64, api.MaxStream - 1, api.MaxStream}
	for n := range 200 {
		lengths = append(lengths, n)
	}
	for _, n := range lengths {
		if got, e := Stream(key, n); e != api.OK || !slices.Equal(got, all[:n]) {
			t.Errorf("Stream of %d bytes: %d, %v", n, len(got), e)
		}
	}
}

// TestStreamRefuses is of P4.2: ErrArg, also where ErrSize would apply as well.
func TestStreamRefuses(t *testing.T) {
	for _, key := range append(wrongKeys(), make([]byte, 32)) {
		for _, n := range []int{-1, -64, math.MinInt, api.MaxStream + 1, math.MaxInt} {
			if got, e := Stream(key, n); e != api.ErrArg || len(got) != 0 {
				t.Errorf("Stream of %d bytes of a key of %d: %d bytes, %v", n, len(key), len(got), e)
			}
		}
	}
	for _, key := range wrongKeys() {
		for _, n := range []int{0, 1, api.MaxStream} {
			if got, e := Stream(key, n); e != api.ErrSize || len(got) != 0 {
				t.Errorf("Stream of %d bytes of a key of %d: %d bytes, %v", n, len(key), len(got), e)
			}
		}
	}
}

// TestTurn is of P4.2: the parts, however they are divided, against the stream; twice is not at all.
func TestTurn(t *testing.T) {
	key, b := counting(), some(150)
	all := whole(t, key)
	want := xored(b, all)
	for i := range len(b) + 1 {
		got, e := Turn(key, b[:i], nil, b[i:])
		if e != api.OK || !slices.Equal(got, want) {
			t.Errorf("Turn divided at %d = %x, %v", i, got, e)
		}
		if again, e := Turn(key, got[i:]); e != api.OK || !slices.Equal(again, xored(want[i:], all)) {
			t.Errorf("Turn of what follows byte %d = %x, %v", i, again, e)
		}
		if again, e := Turn(key, got[:i], got[i:]); e != api.OK || !slices.Equal(again, b) {
			t.Errorf("Turn twice = %x, %v", again, e)
		}
	}
	for _, parts := range [][][]byte{nil, {nil}, {{}, nil}} {
		if got, e := Turn(key, parts...); e != api.OK || len(got) != 0 {
			t.Errorf("Turn of nothing = %x, %v", got, e)
		}
	}
}

// TestTurnLimit is of P4.2: MaxStream bytes together and no more, in how many parts whatever.
func TestTurnLimit(t *testing.T) {
	key, b := some(32), some(api.MaxStream+1)
	want := xored(b[:api.MaxStream], whole(t, key))
	for _, cut := range []int{0, 1, 32768, api.MaxStream} {
		got, e := Turn(key, b[:cut], b[cut:api.MaxStream], nil)
		if e != api.OK || !slices.Equal(got, want) {
			t.Errorf("Turn of MaxStream bytes divided at %d: %d bytes, %v", cut, len(got), e)
		}
		if again, e := Turn(key, got); e != api.OK || !slices.Equal(again, b[:api.MaxStream]) {
			t.Errorf("Turn of MaxStream bytes twice: %d bytes, %v", len(again), e)
		}
		if got, e := Turn(key, b[:cut], nil, b[cut:]); e != api.ErrBound || len(got) != 0 {
			t.Errorf("Turn of a byte more divided at %d: %d bytes, %v", cut, len(got), e)
		}
	}
	if got, e := Turn(key, slices.Repeat([][]byte{make([]byte, api.MaxHash)}, 1000)...); e != api.ErrBound || len(got) != 0 {
		t.Errorf("Turn of far more: %d bytes, %v", len(got), e)
	}
}

// TestTurnRefuses is of P4.2: ErrSize, also where ErrBound would apply as well.
func TestTurnRefuses(t *testing.T) {
	for _, key := range wrongKeys() {
		for _, n := range []int{0, 1, api.MaxStream, api.MaxStream + 1} {
			if got, e := Turn(key, make([]byte, n)); e != api.ErrSize || len(got) != 0 {
				t.Errorf("Turn of %d bytes with a key of %d: %d bytes, %v", n, len(key), len(got), e)
			}
		}
		if got, e := Turn(key); e != api.ErrSize || len(got) != 0 {
			t.Errorf("Turn of nothing with a key of %d bytes = %x, %v", len(key), got, e)
		}
	}
}
