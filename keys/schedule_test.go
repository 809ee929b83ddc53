package keys_test

import (
	"slices"
	"testing"

	"shallot/api"
	"shallot/keys"
)

// hops returns n private keys with their public ones.
func hops(t *testing.T, n int) (privs, pubs [][]byte) {
	t.Helper()
	for i := range n {
		pub := public(t, mixed(i))
		privs, pubs = append(privs, mixed(i)), append(pubs, pub[:])
	}
	return privs, pubs
}

// schedule returns the steps of a route, which must have no error.
func schedule(t *testing.T, x []byte, pubs ...[]byte) []keys.Step {
	t.Helper()
	steps, e := keys.Schedule(x, pubs...)
	if e != api.OK || len(steps) != len(pubs) {
		t.Fatalf("Schedule(%x, %x): %d steps, %v", x, pubs, len(steps), e)
	}
	return steps
}

// refused compares the error of Schedule, beside which nothing may stand.
func refused(t *testing.T, want api.Errno, x []byte, pubs ...[]byte) {
	t.Helper()
	if steps, e := keys.Schedule(x, pubs...); e != want || len(steps) != 0 {
		t.Errorf("Schedule(%x, %x) = %x, %v, not %v", x, pubs, steps, e, want)
	}
}

// meant returns the steps of a route as the document tells them, by the library.
func meant(t *testing.T, x []byte, pubs ...[]byte) []keys.Step {
	t.Helper()
	alpha := public(t, x)
	var steps []keys.Step
	for _, pub := range pubs {
		secret := product(t, x, pub)
		for _, s := range steps {
			secret = product(t, s.Blind[:], secret[:])
		}
		s := keys.Step{Keys: derived(t, secret[:]), Alpha: alpha, Secret: secret}
		steps = append(steps, s)
		alpha = product(t, s.Blind[:], alpha[:])
	}
	return steps
}

// apart returns what was made apart for a route of three hops: of each hop its private and public key, Alpha, Secret, Mac, Stream, Pay and Blind.
func apart() [][]string {
	return [][]string{
		{
			"5dab087e624a8a4b79e17f8b83800ee66f3bb1292618b6fd1c2f8b27ff88e0eb",
			"de9edb7d7b7dc1b4d35b61c2ece435373f8343c85b78674dadfc7e146f882b4f",
			"8520f0098930a754748b7ddcb43ef75a0dbf3a0d26381af4eba4a98eaa9b4e6a",
			"4a5d9d5ba4ce2de1728e3bf480350f25e07e21c947d19e3376f09b3c1e161742",
			"546ad16519ad15491c950c860964e2cc4ccd0ee5855036e60cf9aa06aae69351",
			"963b0076701f6f38d1c1c49dc8519cd8f0250dc49deaf4fd67a4da4b82964439",
			"63c64359d894371e79a6a72cd148070674fe68db55ba16e7bae622dd1c1bfb1a",
			"87215a452d27ce760f11324078de86cdb0b940b155ad7ea696495d78ce970684",
		},
		{
			"a546e36bf0527c9d3b16154b82465edd62144c0ac1fc5a18506a2244ba449ac4",
			"1c9fd88f45606d932a80c71824ae151d15d73e77de38e8e000852e614fae7019",
			"1fad6897a035a89b3bcf1f73c60cf8bee1ab487a8c3e8c31ac94dcc4890f9263",
			"176b77949a11683979e20172db43c6a9b565e3a190cea7a8a15a02da2ae6f905",
			"2a24b1c380a20c6e76fc6854a2c0a38465728f12aaa4d8928a04d011cc335fae",
			"57178e88164efc93ccdaefebc1678b67be29d9aa8a1db9b3dfcd2de23c35ba5e",
			"8bb9d544a3060658ed3fdd629b21d8b202f2a3e7bf44530b2f56d36f848a8ff1",
			"eedccac181b5dcef59121aa9ba431d859df7e32039ed076fea086c4964bcd1ae",
		},
		{
			"4b66e9d4d1b4673c5ad22691957d6af5c11b6421e0ea01d42ca4169e7918ba0d",
			"ff63fe57bfbf43fa3f563628b149af704d3db625369c49983650347a6a71e00e",
			"4c09844424d11cdf898b03cb954fb4a700a8a0e033de2d78c9b8cac9bc41fe7b",
			"450a76cf7179dc915bdb221c8140f240220d6efdb770903f26817e839d3ef31d",
			"ad3b55406897dc10ca7da05f529e1bd6a4d84908d60f3556b5be7bc4652d5718",
			"2ceb447c6954d17d344153514dcfd46aa108b338241eadbfe6dc371a3ce1f4bb",
			"685e4af8cf51aeef67786eb1832843afbc7893edc3970097fe227bff72202e69",
			"2e04acd3fc905494691c4bc03f1a6cbddaff7f85582ab3b4e014fdd33e1f2aa1",
		},
	}
}

// TestScheduleApart is of P12.2 and P12.3: a route of three hops, made apart.
func TestScheduleApart(t *testing.T) {
	x := unhex(t, "77076d0a7318a57d3c16c17251b26645df4c2f87ebc0992ab177fba51db92c2a")
	var privs, pubs [][]byte
	var want []keys.Step
	for _, row := range apart() {
		var b [8][32]byte
		for i, s := range row {
			b[i] = unhex(t, s)
		}
		privs, pubs = append(privs, b[0][:]), append(pubs, b[1][:])
		want = append(want, keys.Step{Keys: api.Keys{Mac: b[4], Stream: b[5], Pay: b[6], Blind: b[7]}, Alpha: b[2], Secret: b[3]})
	}
	steps := schedule(t, x[:], pubs...)
	for i, s := range steps {
		if s != want[i] {
			t.Errorf("the step %d is %x, not %x", i, s, want[i])
		}
		if peeled, e := keys.Peel(privs[i], want[i].Alpha[:]); e != api.OK || peeled != want[i] {
			t.Errorf("Peel at %d = %x, %v", i, peeled, e)
		}
	}
	if next, e := steps[2].Next(); e != api.OK || next != unhex(t, "391037231fc35be19db2ba2eeb18454f5dcc3f1234463f20d8ff20b31afc4f63") {
		t.Errorf("the last Next = %x, %v", next, e)
	}
}

// TestScheduleExamples is of P12.2: the document's examples.
func TestScheduleExamples(t *testing.T) {
	_, pubs := hops(t, 2)
	x := mixed(50)
	refused(t, api.ErrSize, x)
	refused(t, api.ErrZero, x, make([]byte, 32))
	first := product(t, x, pubs[0])
	if s := schedule(t, x, pubs[0]); s[0].Alpha != public(t, x) || s[0].Secret != first {
		t.Errorf("Schedule(x, p) = %x", s)
	}
	half := product(t, x, pubs[1])
	k := derived(t, first[:])
	if s := schedule(t, x, pubs...); s[1].Secret != product(t, k.Blind[:], half[:]) {
		t.Errorf("Schedule(x, p, q) = %x", s)
	}
}

// TestSchedule is of P12.2: routes of one to five hops, against the library.
func TestSchedule(t *testing.T) {
	_, pubs := hops(t, 5)
	scalars := [][]byte{make([]byte, 32), slices.Repeat([]byte{255}, 32), mixed(60), mixed(61)}
	for _, x := range scalars {
		for n := 1; n <= 5; n++ {
			if s := schedule(t, x, pubs[:n]...); !slices.Equal(s, meant(t, x, pubs[:n]...)) {
				t.Errorf("Schedule(%x) of %d hops = %x", x, n, s)
			}
		}
	}
	// One node several times on a route, and public keys that nobody has a private one for.
	for _, route := range [][][]byte{
		{pubs[0], pubs[0], pubs[0]},
		{pubs[1], pubs[0], pubs[1], pubs[0], pubs[1]},
		{mixed(70), mixed(71), mixed(72), mixed(73)},
	} {
		if s := schedule(t, mixed(62), route...); !slices.Equal(s, meant(t, mixed(62), route...)) {
			t.Errorf("Schedule of %x = %x", route, s)
		}
	}
}

// TestScheduleBits is of P12.2: the bits that a scalar fixes and the highest bit of a point don't count.
func TestScheduleBits(t *testing.T) {
	_, pubs := hops(t, 3)
	x := mixed(63)
	want := schedule(t, x, pubs...)
	for _, change := range []func(b []byte){
		func(b []byte) { b[0] ^= 7 },
		func(b []byte) { b[31] ^= 0x80 },
		func(b []byte) { b[31] ^= 0x40 },
	} {
		y := slices.Clone(x)
		change(y)
		if s := schedule(t, y, pubs...); !slices.Equal(s, want) {
			t.Errorf("Schedule(%x) = %x", y, s)
		}
	}
	if s := schedule(t, x, raised(pubs[0]), pubs[1], raised(pubs[2])); !slices.Equal(s, want) {
		t.Errorf("Schedule of points with their highest bit = %x", s)
	}
}

// TestScheduleSizes is of P12.2: wrong numbers of hops and wrong lengths, also where ErrZero would apply as well.
func TestScheduleSizes(t *testing.T) {
	_, pubs := hops(t, 8)
	x, low := mixed(64), make([]byte, 32)
	refused(t, api.ErrSize, x, [][]byte{}...)
	refused(t, api.ErrSize, nil)
	for n := 6; n <= 8; n++ {
		refused(t, api.ErrSize, x, pubs[:n]...)
		refused(t, api.ErrSize, x, slices.Repeat([][]byte{low}, n)...)
	}
	if steps, e := keys.Schedule(x, make([][]byte, 1<<20)...); e != api.ErrSize || len(steps) != 0 {
		t.Errorf("Schedule of very many hops: %d steps, %v", len(steps), e)
	}
	for _, b := range wrongs() {
		refused(t, api.ErrSize, b, pubs[0])
		refused(t, api.ErrSize, b, low)
		refused(t, api.ErrSize, b)
		for n := 1; n <= 5; n++ {
			for at := range n {
				route := slices.Clone(pubs[:n])
				route[at] = b
				refused(t, api.ErrSize, x, route...)
				for i := range n {
					if i != at {
						route[i] = low
					}
				}
				refused(t, api.ErrSize, x, route...)
			}
		}
	}
}

// TestScheduleZero is of P12.2: each low point, at each place of a route.
func TestScheduleZero(t *testing.T) {
	_, pubs := hops(t, 5)
	for i, low := range lows(t) {
		for n := 1; n <= 5; n++ {
			at := (i + n) % n
			route := slices.Clone(pubs[:n])
			route[at] = low
			refused(t, api.ErrZero, mixed(80+i), route...)
		}
	}
	for at := range 5 {
		route := slices.Clone(pubs)
		route[at] = make([]byte, 32)
		refused(t, api.ErrZero, mixed(65), route...)
	}
}

// TestPeel is of P12.3: each hop, with the public value that it receives, makes its step and the next public value.
func TestPeel(t *testing.T) {
	privs, pubs := hops(t, 5)
	for n := 1; n <= 5; n++ {
		for _, x := range [][]byte{mixed(66), mixed(67), make([]byte, 32)} {
			steps := schedule(t, x, pubs[:n]...)
			alpha := public(t, x)
			for i, want := range steps {
				s, e := keys.Peel(privs[i], alpha[:])
				if e != api.OK || s != want || s.Alpha != alpha {
					t.Fatalf("Peel at %d of %d = %x, %v, not %x", i, n, s, e, want)
				}
				next, e := s.Next()
				if e != api.OK || i+1 < n && next != steps[i+1].Alpha {
					t.Fatalf("Next at %d of %d = %x, %v", i, n, next, e)
				}
				alpha = next
			}
		}
	}
}

// TestSteps is of P12.3: no two hops have one secret, one key or one public value, and another hop's private key makes another step.
func TestSteps(t *testing.T) {
	privs, pubs := hops(t, 5)
	steps := schedule(t, mixed(68), pubs...)
	seen := map[[32]byte]int{}
	for _, s := range steps {
		for _, b := range [][32]byte{s.Mac, s.Stream, s.Pay, s.Blind, s.Alpha, s.Secret} {
			seen[b]++
		}
	}
	if len(seen) != 30 {
		t.Errorf("five steps have %d values of their own", len(seen))
	}
	for i, s := range steps {
		other, e := keys.Peel(privs[(i+1)%5], s.Alpha[:])
		if e != api.OK || other.Secret == s.Secret || other.Keys == s.Keys {
			t.Errorf("Peel at %d with another key = %x, %v", i, other, e)
		}
	}
}

// TestPaysOfSchedule is of P12.4: the payload keys of a route, in its order.
func TestPaysOfSchedule(t *testing.T) {
	_, pubs := hops(t, 4)
	steps := schedule(t, mixed(69), pubs...)
	list := keys.Pays(steps...)
	if len(list) != 4 {
		t.Fatalf("Pays = %x", list)
	}
	for i, s := range meant(t, mixed(69), pubs...) {
		if !slices.Equal(list[i], s.Pay[:]) {
			t.Errorf("Pays at %d = %x, not %x", i, list[i], s.Pay)
		}
	}
}
