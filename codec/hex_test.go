package codec

import (
	"slices"
	"strings"
	"testing"

	"shallot/api"
)

// TestHex is of P1.4: all bytes, there and back.
func TestHex(t *testing.T) {
	for s, b := range map[string][]byte{
		"":                 {},
		"00":               {0},
		"00ab":             {0, 171},
		"0123456789abcdef": {0x01, 0x23, 0x45, 0x67, 0x89, 0xab, 0xcd, 0xef},
		"fedcba9876543210": {0xfe, 0xdc, 0xba, 0x98, 0x76, 0x54, 0x32, 0x10},
	} {
		if got := Hex(b); got != s {
			t.Errorf("Hex(%v) = %q", b, got)
		}
		if got, e := Unhex(s); e != api.OK || !slices.Equal(got, b) {
			t.Errorf("Unhex(%q) = %v, %v", s, got, e)
		}
	}
	var all []byte
	for x := range 256 {
		all = append(all, byte(x))
	}
	if got, e := Unhex(Hex(all)); e != api.OK || !slices.Equal(got, all) {
		t.Errorf("Unhex(Hex of all bytes) = %v, %v", got, e)
	}
	if got := Hex(nil); got != "" {
		t.Errorf("Hex(nil) = %q", got)
	}
}

// TestUnhexDigits is of P1.4: each byte is a digit in both places, or in none.
func TestUnhexDigits(t *testing.T) {
	for x := range 256 {
		value := strings.IndexByte("0123456789abcdef", byte(x))
		high, e1 := Unhex(string([]byte{byte(x), '0'}))
		low, e2 := Unhex(string([]byte{'0', byte(x)}))
		if value < 0 {
			if e1 != api.ErrForm || e2 != api.ErrForm || len(high) != 0 || len(low) != 0 {
				t.Errorf("byte %d is no digit: %v %v, %v %v", x, high, e1, low, e2)
			}
			continue
		}
		if e1 != api.OK || e2 != api.OK || !slices.Equal(high, []byte{byte(value << 4)}) || !slices.Equal(low, []byte{byte(value)}) {
			t.Errorf("digit %d: %v %v, %v %v", x, high, e1, low, e2)
		}
	}
}

// TestUnhexRefuses is of P1.4: the number of bytes is looked at first, whatever they are.
func TestUnhexRefuses(t *testing.T) {
	for s, want := range map[string]api.Errno{
		"0":        api.ErrSize,
		"zzz":      api.ErrSize,
		"é0":       api.ErrSize, // three bytes
		"000":      api.ErrSize,
		"0G":       api.ErrForm,
		"0A":       api.ErrForm,
		"é":        api.ErrForm, // two bytes
		"0x":       api.ErrForm,
		"000g":     api.ErrForm,
		"g000":     api.ErrForm,
		" 0":       api.ErrForm,
		"\xff\x00": api.ErrForm,
	} {
		if got, e := Unhex(s); e != want || len(got) != 0 {
			t.Errorf("Unhex(%q) = %v, %v", s, got, e)
		}
	}
}
