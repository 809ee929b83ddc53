package header_test

import (
	"crypto/ecdh"
	"crypto/sha256"
	"encoding/hex"
	"slices"
	"testing"

	"shallot/api"
	"shallot/header"
	"shallot/keys"
)

// path returns commands for n hops, the last one with this kind.
func path(n int, kind byte) []api.Command {
	var cmds []api.Command
	for i := range n - 1 {
		cmds = append(cmds, api.Command{Kind: 1, Flags: byte(i + 1), Delay: uint32(1000 * i), Next: 0x0102030405060708 + uint64(i)})
	}
	last := api.Command{Kind: kind, Flags: 255, Delay: 1000000}
	if kind == 4 {
		last.Mark = marked()
	}
	return append(cmds, last)
}

// filling returns the filler of steps as the document tells it.
func filling(steps []keys.Step) []byte {
	var f []byte
	for _, s := range steps[:len(steps)-1] {
		f = slices.Concat(f, make([]byte, 48))
		f = turned(f, stream(s)[288-len(f):])
	}
	return f
}

// meant returns the header of commands as the document tells it.
func meant(cmds []api.Command, steps []keys.Step) header.Header {
	var h header.Header
	for i := len(steps) - 1; i >= 0; i-- {
		s := steps[i]
		var beta []byte
		if i == len(steps)-1 {
			f := filling(steps)
			beta = slices.Concat(laid(cmds[i], 0), make([]byte, 16), make([]byte, 192))[:240-len(f)]
			beta = slices.Concat(turned(beta, stream(s)), f)
		} else {
			beta = turned(slices.Concat(laid(cmds[i], 0), h.Tag[:], h.Beta[:192]), stream(s))
		}
		h = header.Header{Alpha: s.Alpha, Tag: short(s.Mac, s.Alpha[:], beta), Beta: [240]byte(beta)}
	}
	return h
}

// build returns a header that must have no error.
func build(t *testing.T, cmds []api.Command, steps ...keys.Step) header.Header {
	t.Helper()
	h, e := header.Build(cmds, steps...)
	if e != api.OK {
		t.Fatalf("Build(%v) with %d steps: %v", cmds, len(steps), e)
	}
	return h
}

// sum returns the digits of the library's hash.
func sum(b []byte) string {
	s := sha256.Sum256(b)
	return hex.EncodeToString(s[:])
}

// scheduled returns the steps of a route of n hops, with the private keys of these.
func scheduled(t *testing.T, seed, n int) (privs [][]byte, steps []keys.Step) {
	t.Helper()
	var pubs [][]byte
	for i := range n {
		priv := mixed(100*seed + i)
		key, err := ecdh.X25519().NewPrivateKey(priv[:])
		if err != nil {
			t.Fatal(err)
		}
		privs, pubs = append(privs, priv[:]), append(pubs, key.PublicKey().Bytes())
	}
	x := mixed(100*seed + 99)
	steps, e := keys.Schedule(x[:], pubs...)
	if e != api.OK {
		t.Fatalf("Schedule: %v", e)
	}
	return privs, steps
}

// TestApart is of P13.3: the hashes of fillers and headers that were made apart, for one to five hops.
func TestApart(t *testing.T) {
	for i, want := range [][2]string{
		{"e3b0c44298fc1c149afbf4c8996fb92427ae41e4649b934ca495991b7852b855", "7811034caa0a7cf9f0d3daa861b439fe181eba3fee88a07aa69e4d9723bf464c"},
		{"cdb81c433eb393ed4028f4a442cacf53681ac0858393fccfc00d1e5926bad45a", "eb9ddaf765b1568d72b2aee44112bd135621a986f527ba85a62bbc1b0b3cf5b5"},
		{"da21dcd14736375cd104247898ff9b0f45c69a4240622dd9b1449e53775e23e1", "7d9e826f7c040a72cf05eaa98577fde252587d8197f711b7b452ed0950f26c73"},
		{"3bd48a3da508f48feadc58bc12509c4089301a5a02e02e9fec47eaa635bcafde", "277d41264f269550746ce74f3132fc632f536ad31deedce12b4b73d6e350b868"},
		{"47ef495608ff6d3fe35e973d9ea50c70335002c487b2287dc1d28fcfbc83c0e4", "d9cedbb012ce48de98652e7ab31fbd010f80a89a4bf26ed827cdf2f0624bd5b0"},
	} {
		steps := stepsOf(i + 1)
		f, e := header.Filler(steps...)
		if e != api.OK || sum(f) != want[0] {
			t.Errorf("Filler of %d steps = %x, %v", i+1, f, e)
		}
		if h := build(t, path(i+1, 4), steps...); sum(h.Bytes()) != want[1] {
			t.Errorf("Build with %d steps = %x", i+1, h.Bytes())
		}
	}
}

// TestFiller is of P13.3: one to five steps; only the streams of all but the last one count.
func TestFiller(t *testing.T) {
	for n := 1; n <= 5; n++ {
		steps := stepsOf(n)
		want := filling(steps)
		if f, e := header.Filler(steps...); e != api.OK || len(f) != 48*(n-1) || !slices.Equal(f, want) {
			t.Errorf("Filler of %d steps = %x, %v, not %x", n, f, e, want)
		}
		for i := range steps {
			steps[i] = keys.Step{Keys: api.Keys{Stream: steps[i].Stream}}
		}
		steps[n-1] = keys.Step{}
		if f, e := header.Filler(steps...); e != api.OK || !slices.Equal(f, want) {
			t.Errorf("Filler of %d streams = %x, %v, not %x", n, f, e, want)
		}
	}
}

// TestFillerSizes is of P13.3: no steps, and too many.
func TestFillerSizes(t *testing.T) {
	for _, n := range []int{0, 6, 7, 8, 10, 100} {
		if f, e := header.Filler(make([]keys.Step, n)...); e != api.ErrSize || len(f) != 0 {
			t.Errorf("Filler of %d steps = %x, %v", n, f, e)
		}
	}
}

// TestFillerArrives is of P13.3: at the last hop the filler is the end of Beta.
func TestFillerArrives(t *testing.T) {
	for n := 1; n <= 5; n++ {
		_, steps := scheduled(t, n, n)
		h := build(t, path(n, 2), steps...)
		for _, s := range steps[:n-1] {
			_, next, e := h.Open(s)
			if e != api.OK {
				t.Fatalf("Open: %v", e)
			}
			h = next
		}
		f, e := header.Filler(steps...)
		if e != api.OK || len(f) != 48*(n-1) || !slices.Equal(h.Beta[240-len(f):], f) {
			t.Errorf("the filler of %d steps is %x, %v, and arrives as %x", n, f, e, h.Beta)
		}
	}
}

// TestBuild is of P13.3: one to five steps, whatever their fields are, each kind at the end.
func TestBuild(t *testing.T) {
	for n := 1; n <= 5; n++ {
		for _, kind := range []byte{2, 3, 4} {
			steps, cmds := stepsOf(n), path(n, kind)
			if h := build(t, cmds, steps...); h != meant(cmds, steps) {
				t.Errorf("Build(%v) = %x", cmds, h.Bytes())
			}
			for i := range steps { // these count for nothing
				steps[i].Pay, steps[i].Blind, steps[i].Secret = [32]byte{1}, [32]byte{2}, [32]byte{3}
			}
			if h := build(t, cmds, steps...); h != meant(cmds, stepsOf(n)) {
				t.Errorf("Build(%v) hangs on more of a step than its Alpha, Mac and Stream", cmds)
			}
		}
		alike := make([]keys.Step, n)
		if h := build(t, path(n, 2), alike...); h != meant(path(n, 2), alike) {
			t.Errorf("Build with %d zero Steps = %x", n, h.Bytes())
		}
	}
}

// judged is a command with the error that it has by itself.
type judged struct {
	api.Command
	e api.Errno
}

// commands returns good commands and all kinds of wrong ones.
func commands() []judged {
	return []judged{
		{api.Command{Kind: 1, Next: 2, Flags: 255, Delay: 1000000}, api.OK},
		{api.Command{Kind: 2, Delay: 5}, api.OK},
		{api.Command{Kind: 3, Flags: 1}, api.OK},
		{api.Command{Kind: 4, Mark: marked()}, api.OK},
		{api.Command{}, api.ErrArg},
		{api.Command{Kind: 5, Next: 1, Delay: 1000001}, api.ErrArg},
		{api.Command{Kind: 1}, api.ErrForm},
		{api.Command{Kind: 2, Next: 3}, api.ErrForm},
		{api.Command{Kind: 3, Mark: marked()}, api.ErrForm},
		{api.Command{Kind: 1, Delay: 1000001}, api.ErrForm},
		{api.Command{Kind: 1, Next: 2, Delay: 1000001}, api.ErrBound},
		{api.Command{Kind: 2, Delay: 1<<32 - 1}, api.ErrBound},
	}
}

// wrong returns the least error that the document has for these commands and n steps.
func wrong(list []judged, n int) api.Errno {
	errs := []api.Errno{}
	for i, c := range list {
		switch last := i == len(list)-1; {
		case c.e != api.OK:
			errs = append(errs, c.e)
		case last && c.Kind == 1, !last && c.Kind != 1:
			errs = append(errs, api.ErrForm)
		}
	}
	if n == 0 || n > 5 || n != len(list) {
		errs = append(errs, api.ErrSize)
	}
	if len(errs) == 0 {
		return api.OK
	}
	return slices.Min(errs)
}

// judge compares Build of a list with what the document tells, for all numbers of steps.
func judge(t *testing.T, list []judged) {
	t.Helper()
	var cmds []api.Command
	for _, c := range list {
		cmds = append(cmds, c.Command)
	}
	for n := range 8 {
		var want header.Header
		e := wrong(list, n)
		if e == api.OK {
			want = meant(cmds, stepsOf(n))
		}
		if h, got := header.Build(cmds, stepsOf(n)...); got != e || h != want {
			t.Errorf("Build(%v) with %d steps = %x, %v, not %x, %v", cmds, n, h.Bytes(), got, want.Bytes(), e)
		}
	}
}

// TestBuildErrors is of P13.3: all lists of up to three commands, each kind of them right or wrong, with any number of steps.
func TestBuildErrors(t *testing.T) {
	judge(t, nil)
	for _, a := range commands() {
		judge(t, []judged{a})
		for _, b := range commands() {
			judge(t, []judged{a, b})
			for _, c := range commands() {
				judge(t, []judged{a, b, c})
			}
		}
	}
}

// TestBuildErrorsOfLong is of P13.3: one or two wrong commands in longer lists, which may be too long as well.
func TestBuildErrorsOfLong(t *testing.T) {
	for n := 4; n <= 7; n++ {
		good := slices.Repeat(commands()[:1], n)
		good[n-1] = commands()[1]
		judge(t, good)
		for at := range n {
			for _, c := range commands() {
				list := slices.Clone(good)
				list[at] = c
				judge(t, list)
				list[(at+1)%n] = commands()[10]
				judge(t, list)
				list[(at+2)%n] = commands()[5]
				judge(t, list)
			}
		}
	}
	for _, kind := range []byte{2, 9} {
		want := api.ErrSize
		if kind == 9 {
			want = api.ErrArg
		}
		if h, e := header.Build(path(1<<16, kind), stepsOf(5)...); e != want || h != (header.Header{}) {
			t.Errorf("Build of very many commands = %x, %v", h.Bytes(), e)
		}
	}
}

// TestExamples is of P13.1 to P13.3: the document's examples.
func TestExamples(t *testing.T) {
	if _, e := header.Parse(make([]byte, 287)); e != api.ErrSize {
		t.Errorf("Parse of 287 bytes: %v", e)
	}
	if h, e := header.Build(nil); e != api.ErrSize || h != (header.Header{}) {
		t.Errorf("Build without commands and steps = %x, %v", h.Bytes(), e)
	}
	if h, e := header.Build([]api.Command{{Kind: 1, Next: 2}}, step(0)); e != api.ErrForm || h != (header.Header{}) {
		t.Errorf("Build of a Relay alone = %x, %v", h.Bytes(), e)
	}
	one, e1 := header.Filler(step(0))
	two, e2 := header.Filler(step(0), step(1))
	if e1 != api.OK || e2 != api.OK || len(one) != 0 || len(two) != 48 {
		t.Errorf("Filler = %x, %v and %x, %v", one, e1, two, e2)
	}
	deliver := api.Command{Kind: 2}
	opens(t, build(t, []api.Command{deliver}, step(0)), step(0), deliver, header.Header{}, api.OK)
	refuses(t, header.Header{}, keys.Step{}, api.ErrMac)
}

// TestRoutes is of P13.4: along a route each header fits the step of its hop alone, as the sender and as the hop makes it, and opens to its command.
func TestRoutes(t *testing.T) {
	for n := 1; n <= 5; n++ {
		for _, kind := range []byte{2, 3, 4} {
			privs, steps := scheduled(t, 10*n+int(kind), n)
			cmds := path(n, kind)
			h := build(t, cmds, steps...)
			for i, s := range steps {
				if h.Alpha != s.Alpha || len(h.Bytes()) != 288 {
					t.Fatalf("the header at %d of %d is %x", i, n, h.Bytes())
				}
				for j, other := range steps {
					if h.Fits(other) != (i == j) {
						t.Errorf("the header at %d of %d and the step %d: Fits = %v", i, n, j, i != j)
					}
				}
				peeled, e := keys.Peel(privs[i], h.Alpha[:])
				if e != api.OK || peeled != s {
					t.Fatalf("Peel at %d of %d: %v", i, n, e)
				}
				c, next, e := h.Open(peeled)
				if e != api.OK || c != cmds[i] {
					t.Fatalf("Open at %d of %d = %v, %v", i, n, c, e)
				}
				if again, e := header.Parse(h.Bytes()); e != api.OK || again != h {
					t.Errorf("Parse at %d of %d = %x, %v", i, n, again.Bytes(), e)
				}
				h = next
			}
			if h != (header.Header{}) {
				t.Errorf("behind the last of %d hops: %x", n, h.Bytes())
			}
		}
	}
}

// TestRoutesChanged is of P13.5: a byte changed at any hop is seen there.
func TestRoutesChanged(t *testing.T) {
	_, steps := scheduled(t, 1, 5)
	h := build(t, path(5, 4), steps...)
	for i, s := range steps {
		b := h.Bytes()
		for at := range b {
			was := b[at]
			b[at] += byte(1 + (at+i)%255)
			bad, _ := header.Parse(b)
			refuses(t, bad, s, api.ErrMac)
			b[at] = was
		}
		_, h, _ = h.Open(s)
	}
}
