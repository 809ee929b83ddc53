package wide

import (
	"crypto/hkdf"
	"crypto/hmac"
	"crypto/sha256"
	"encoding/hex"
	"fmt"
	"math"
	"slices"
	"testing"

	"shallot/api"
	"shallot/chacha"
)

// some returns n bytes of a pattern that does not repeat with the blocks.
func some(n int) []byte {
	b := make([]byte, n)
	for i := range b {
		b[i] = byte(i*i + 7*i + i>>8 + 3)
	}
	return b
}

// counting returns the bytes 0, 1, .. 31.
func counting() []byte {
	key := make([]byte, 32)
	for i := range key {
		key[i] = byte(i)
	}
	return key
}

// keysOf are keys of zero bytes, of the greatest bytes, and mixed ones.
func keysOf() [][]byte {
	return [][]byte{make([]byte, 32), slices.Repeat([]byte{255}, 32), counting(), some(32)}
}

// sizes are lengths of blocks: the least and the greatest one, and those about the ends of a stream's blocks.
func sizes() []int {
	return []int{32, 33, 34, 63, 64, 65, 95, 96, 97, 100, 160, 161, 480, 4095, 4096}
}

// wrongKeys are as long as no key is.
func wrongKeys() [][]byte {
	return [][]byte{nil, {}, {1}, make([]byte, 16), make([]byte, 31), make([]byte, 33), make([]byte, 64)}
}

// wrongBlocks are as long as no block is.
func wrongBlocks() [][]byte {
	return [][]byte{nil, {}, {1}, make([]byte, 31), make([]byte, api.MaxWide+1), make([]byte, api.MaxStream+33)}
}

func xored(a, b []byte) []byte {
	out := slices.Clone(a)
	for i := range out {
		out[i] ^= b[i]
	}
	return out
}

// want returns the block behind these rounds as the chapter tells them, with the library's HMAC and HKDF.
func want(t *testing.T, key, block []byte, rounds ...int) []byte {
	t.Helper()
	left, right := block[:32], block[32:]
	for _, n := range rounds {
		k, err := hkdf.Key(sha256.New, key, []byte("shallot"), fmt.Sprint("wide", n), 32)
		if err != nil {
			t.Fatal(err)
		}
		if n == 1 || n == 3 {
			stream, e := chacha.Stream(xored(left, k), len(right))
			if e != api.OK {
				t.Fatal(e)
			}
			right = xored(right, stream)
		} else {
			h := hmac.New(sha256.New, k)
			h.Write(right)
			left = xored(left, h.Sum(nil))
		}
	}
	return slices.Concat(left, right)
}

// is checks what a call returned.
func is(t *testing.T, name string, got []byte, e api.Errno, want []byte) {
	t.Helper()
	if e != api.OK || !slices.Equal(got, want) {
		t.Errorf("%s = %x, %v, not %x", name, got, e, want)
	}
}

// refused checks that a call returned an error and nothing else.
func refused(t *testing.T, name string, got []byte, e, want api.Errno) {
	t.Helper()
	if e != want || len(got) != 0 {
		t.Errorf("%s = %d bytes, %v, not %v", name, len(got), e, want)
	}
}

// TestRoundsKnown is of P7.1: what another program has made of 45 bytes.
func TestRoundsKnown(t *testing.T) {
	for _, c := range []struct {
		rounds []int
		want   string
	}{
		{[]int{1}, "030b15212f3f51657b93adc9e707294d739bc5f11f4f81b5eb235d99d717599d4fccfb534b15dc151b521b8a2e"},
		{[]int{2}, "846c4e39c91fcf1cf60b163022737c8df67fde7f522c645ed367a05e06c21018e32b75c10f5fb1055bb30d69c7"},
		{[]int{3}, "030b15212f3f51657b93adc9e707294d739bc5f11f4f81b5eb235d99d717599dac026dc604223effba0e3bd573"},
		{[]int{4}, "e36e38fc826f59351f9215cc86ff4423b81abbbb6046183174199f0b32986ec8e32b75c10f5fb1055bb30d69c7"},
		{[]int{1, 2, 3, 4}, "495cefa9201f53efde05d782f899c226922e541226cd6082487078c868c7220720ee3d9b8abe702d5a23177837"},
		{[]int{4, 3, 2, 1}, "0a473e49f8d9c234562bb020e01d19aeb0a3d72497e91ac8a0fbeea03e32891cc337f0ffc40191d3f5c1c71d5b"},
		{[]int{3, 3, 1, 4, 2, 2, 2}, "1a644b2f4f48efe41e5e099838cadea25f7a0fe33dd9ac9f9f32c85e71bb9acb4fccfb534b15dc151b521b8a2e"},
	} {
		if got, e := Rounds(counting(), some(45), c.rounds...); e != api.OK || hex.EncodeToString(got) != c.want {
			t.Errorf("Rounds %v = %x, %v", c.rounds, got, e)
		}
	}
}

// TestRounds is of P7.1: each sequence of up to three rounds, and some longer ones.
func TestRounds(t *testing.T) {
	lists := [][]int{nil}
	for first := 0; first < len(lists) && len(lists[first]) < 3; first++ {
		for n := 1; n <= 4; n++ {
			lists = append(lists, append(slices.Clone(lists[first]), n))
		}
	}
	lists = append(lists, []int{1, 2, 3, 4}, []int{4, 3, 2, 1}, slices.Repeat([]int{2, 4, 1, 3, 3}, 10))
	for _, key := range keysOf() {
		for _, size := range []int{32, 33, 97, 300} {
			block := some(size)
			for _, l := range lists {
				got, e := Rounds(key, block, l...)
				is(t, fmt.Sprintf("Rounds %v of %d bytes", l, size), got, e, want(t, key, block, l...))
			}
		}
	}
}

// TestRoundsTwice is of P7.1: each round is its own inverse, and changes one of the halves alone.
func TestRoundsTwice(t *testing.T) {
	for _, size := range sizes() {
		block := some(size)
		for n := 1; n <= 4; n++ {
			name := fmt.Sprintf("round %d of %d bytes", n, size)
			once, e := Rounds(counting(), block, n)
			if e != api.OK || len(once) != size {
				t.Fatalf("%s: %d bytes, %v", name, len(once), e)
			}
			if slices.Equal(once[:32], block[:32]) != (n%2 == 1) || slices.Equal(once[32:], block[32:]) != (n%2 == 0 || size == 32) {
				t.Errorf("%s changes the wrong half: %x", name, once)
			}
			twice, e := Rounds(counting(), once, n)
			is(t, name+", twice", twice, e, block)
			twice, e = Rounds(counting(), block, n, n)
			is(t, name+", twice in one call", twice, e, block)
		}
		got, e := Rounds(counting(), block)
		is(t, "no rounds", got, e, block)
	}
}

// TestRoundsLeast is of P7.1: the rounds 1 and 3 change nothing in a block of 32 bytes, which has no rest.
func TestRoundsLeast(t *testing.T) {
	for _, key := range keysOf() {
		block := some(32)
		got, e := Rounds(key, block, 1, 3, 3, 1, 1)
		is(t, "odd rounds of 32 bytes", got, e, block)
		sealed, e := Seal(key, block)
		is(t, "Seal of 32 bytes", sealed, e, want(t, key, block, 2, 4))
	}
}

// TestRoundsRefuses is of P7.1: ErrArg for a round wherever it stands, whatever the lengths are; else ErrSize.
func TestRoundsRefuses(t *testing.T) {
	key, block := counting(), some(40)
	for _, n := range []int{0, 5, -1, 6, 255, 257, 1<<32 + 1, math.MaxInt, math.MinInt} {
		for _, rounds := range [][]int{{n}, {n, 1}, {1, 2, 3, 4, n}, {n, n}} {
			got, e := Rounds(key, block, rounds...)
			refused(t, fmt.Sprint("Rounds ", rounds), got, e, api.ErrArg)
			got, e = Rounds(key[:31], block, rounds...)
			refused(t, fmt.Sprint("Rounds with a wrong key ", rounds), got, e, api.ErrArg)
			got, e = Rounds(key, block[:31], rounds...)
			refused(t, fmt.Sprint("Rounds of a wrong block ", rounds), got, e, api.ErrArg)
		}
	}
	for _, rounds := range [][]int{nil, {1}, {2}, {1, 2, 3, 4}} {
		for _, k := range wrongKeys() {
			got, e := Rounds(k, block, rounds...)
			refused(t, fmt.Sprintf("Rounds %v with a key of %d bytes", rounds, len(k)), got, e, api.ErrSize)
		}
		for _, b := range wrongBlocks() {
			got, e := Rounds(key, b, rounds...)
			refused(t, fmt.Sprintf("Rounds %v of %d bytes", rounds, len(b)), got, e, api.ErrSize)
		}
	}
}

// TestSealKnown is of P7.2: what another program has made, of long blocks by their hash.
func TestSealKnown(t *testing.T) {
	for _, c := range []struct {
		size         int
		sealed, open string
	}{
		{32, "67628e3ec2ea522cd5ae28d970ef427dbe31edfccc3582a42967e5f047b34886", "af0eb50aa451b5894ccf65cc39af7ed17c0c82955cdeec51fd78953b0d11a8ea"},
		{33, "de0dfb5c5acad145803ea902f23fd912377885f97b217c82613793c98897f0ef9c", "17a945168000153ff58eb9e1b4d0bc9a48ef9d6e4cde6713adc745e8799aea2e37"},
		{64, "c0770c834479bcdfe0759c3b5d2bebb59959572a27dcd0adc4318fc1e5cb6501687fd14471e40d36491ce4e3193edb8d1377cebfcd273a41b07cdbebe1e47a0e", "e5135cbc7f4152a9df0231e5c5b25dbd1bbd1316422aa76d6b6cbef8314eba7e4b1f96c1054135b3022271d18d95b8b7fb2b21d6e8c730e064febf4ac4d2cfbd"},
		{100, "eb57d6ab2826edeb18c49302c790aad7fb898cc8832a59022e07c2644daa0d289ebf665eb80179b5bc248dd68b102dea6729a51c500f8620f8af962773e79865285eb73eafeee2ca5dda8cead32df867ac2e69d98920d1a1e3533cea41a3825413f00e03", "05d6988a43489ef14c75e2abffc20d3e363032998ef7d41d2c5bb1c11b757912337330eb4bbf19339e73c41624d2ec345a4ae7c381d9099b72a92cb6373fc58b79d8e75c37bc2317b4b57e38ea764dc35f282d01002f528829b7cf87d2e010d306bf24f8"},
		{480, "b61438519238a785049b01c1a883874de748bd1662b4055560e87f766b5e383b", "681c747306d150b3ccdda65c0dfdf5adc585b311836da892905edb2334fee889"},
		{4096, "993dcc7f5269b500390364cc9a65f8da16d124a9d8a3b4d4d44107a75710c99f", "7701f8b5ef017de36ae5b7d180a5535de8aafa40107319da585a09b2ae02d86b"},
	} {
		sealed, e := Seal(counting(), some(c.size))
		if e != api.OK || shown(sealed) != c.sealed {
			t.Errorf("Seal of %d bytes = %x, %v", c.size, sealed, e)
		}
		open, e := Open(make([]byte, 32), some(c.size))
		if e != api.OK || shown(open) != c.open {
			t.Errorf("Open of %d bytes = %x, %v", c.size, open, e)
		}
	}
}

// shown returns bytes as digits: themselves if they are few, otherwise their hash.
func shown(b []byte) string {
	if len(b) <= 100 {
		return hex.EncodeToString(b)
	}
	sum := sha256.Sum256(b)
	return hex.EncodeToString(sum[:])
}

// TestSealOpen is of P7.2: all four rounds, which keep the length and reverse each other in both orders.
func TestSealOpen(t *testing.T) {
	for _, key := range keysOf() {
		for _, size := range sizes() {
			for _, block := range [][]byte{some(size), make([]byte, size)} {
				sealed, e := Seal(key, block)
				is(t, "Seal", sealed, e, want(t, key, block, 1, 2, 3, 4))
				back, e := Open(key, sealed)
				is(t, "Open of Seal", back, e, block)
				open, e := Open(key, block)
				is(t, "Open", open, e, want(t, key, block, 4, 3, 2, 1))
				back, e = Seal(key, open)
				is(t, "Seal of Open", back, e, block)
			}
		}
	}
}

// TestSealSpreads is of P7.2: each byte of the result depends on each byte of the block and of the key. (Not so for a block of 32 bytes, which has no rest to hang on.)
func TestSealSpreads(t *testing.T) {
	for name, call := range map[string]func(key, block []byte) ([]byte, api.Errno){"Seal": Seal, "Open": Open} {
		for _, size := range []int{33, 80} {
			key, block := counting(), some(size)
			again := func() []byte {
				got, _ := call(key, block)
				return got
			}
			for i := range block {
				spreads(t, fmt.Sprintf("%s of %d bytes, byte %d", name, size, i), &block[i], again)
			}
			for i := range key {
				spreads(t, fmt.Sprintf("%s of %d bytes, byte %d of the key", name, size, i), &key[i], again)
			}
		}
	}
}

// spreads checks that changes of a byte reach each byte of what the call returns. There are four changes, since one byte in 256 stays the same by chance.
func spreads(t *testing.T, name string, b *byte, call func() []byte) {
	t.Helper()
	first := call()
	reached := make([]bool, len(first))
	was := *b
	for _, bit := range []byte{1, 2, 64, 128} {
		*b = was ^ bit
		for i, x := range call() {
			reached[i] = reached[i] || x != first[i]
		}
	}
	*b = was
	if len(first) == 0 || slices.Contains(reached, false) {
		t.Errorf("%s does not reach each byte: %v", name, reached)
	}
}

// TestSealRefuses is of P7.2.
func TestSealRefuses(t *testing.T) {
	for name, call := range map[string]func(key, block []byte) ([]byte, api.Errno){"Seal": Seal, "Open": Open} {
		for _, key := range wrongKeys() {
			for _, block := range append(wrongBlocks(), some(32), some(4096)) {
				got, e := call(key, block)
				refused(t, fmt.Sprintf("%s of %d bytes with a key of %d", name, len(block), len(key)), got, e, api.ErrSize)
			}
		}
		for _, block := range wrongBlocks() {
			got, e := call(counting(), block)
			refused(t, fmt.Sprintf("%s of %d bytes", name, len(block)), got, e, api.ErrSize)
		}
	}
}
