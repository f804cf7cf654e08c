package header

import (
	"math"
	"strings"
	"testing"

	"claviger/api"
)

var plain = api.Head{Usage: "K0", Mode: "B", Version: "00", Export: "E"}

var good = []struct {
	h    Header
	want string
}{
	{Header{112, "A", 0, plain}, "D0112K0AB00E0000"}, {Header{0, "T", 99, plain}, "D0000K0TB00E9900"}, {Header{9999, "E", 5, api.Head{Usage: "S0", Mode: "S", Version: "c7", Export: "N"}}, "D9999S0ESc7N0500"}, {Header{80, "H", 10, api.Head{Usage: "42", Mode: "X", Version: "99", Export: "S"}}, "D008042HX99S1000"},
}

// P31.1, P31.2, P31.3
func TestHeaders(t *testing.T) {
	for _, c := range good {
		if got, err := Encode(c.h); got != c.want || err != api.OK {
			t.Errorf("Encode(%v) = %q, %d", c.h, got, err)
		}
		for _, rest := range []string{"", "0", "rest", "\x00\xff"} {
			if got, err := Decode(c.want + rest); got != c.h || err != api.OK {
				t.Errorf("Decode(%q) = %v, %d", c.want+rest, got, err)
			}
		}
		for n := range 16 {
			if got, err := Decode(c.want[:n]); got != (Header{}) || err != api.ErrForm {
				t.Errorf("Decode(%q): %d", c.want[:n], err)
			}
		}
	}
}

// P31.1
func TestEncodeErrors(t *testing.T) {
	for _, c := range []struct {
		h    Header
		want api.Errno
	}{
		{Header{}, api.ErrArg}, {Header{-1, "A", 0, plain}, api.ErrArg}, {Header{10000, "A", 0, plain}, api.ErrArg}, {Header{math.MaxInt, "A", math.MinInt, plain}, api.ErrArg}, {Header{1, "A", -1, plain}, api.ErrArg}, {Header{1, "A", 100, plain}, api.ErrArg}, {Header{1, "X", 0, plain}, api.ErrArg}, {Header{1, "", 0, plain}, api.ErrArg}, {Header{1, "AT", 0, plain}, api.ErrArg}, {Header{1, "X", 0, api.Head{}}, api.ErrArg},
		{Header{1, "A", 0, api.Head{}}, api.ErrHead}, {Header{1, "H", 0, plain}, api.ErrHead}, {Header{1, "E", 0, plain}, api.ErrHead}, {Header{1, "A", 0, api.Head{Usage: "K0", Mode: "C", Version: "00", Export: "E"}}, api.ErrHead}, {Header{1, "A", 0, api.Head{Usage: "K0", Mode: "B", Version: "0", Export: "E"}}, api.ErrHead}, {Header{1, "A", 0, api.Head{Usage: "K0", Mode: "B", Version: "00", Export: "EE"}}, api.ErrHead},
	} {
		if got, err := Encode(c.h); got != "" || err != c.want {
			t.Errorf("Encode(%v) = %q, %d", c.h, got, err)
		}
	}
}

// P31.2
func TestDecodeErrors(t *testing.T) {
	for s, want := range map[string]api.Errno{
		"": api.ErrForm, "C0112K0AB00E0000": api.ErrForm, "d0112K0AB00E0000": api.ErrForm, "D 112K0AB00E0000": api.ErrForm, "D+112K0AB00E0000": api.ErrForm, "D011aK0AB00E0000": api.ErrForm, "D0112K0AB00Ea000": api.ErrForm, "D0112K0AB00E-100": api.ErrForm, "D0112K0AB00E0001": api.ErrForm, "D0112K0AB00E0010": api.ErrForm, "D0112K0AB00E00  ": api.ErrForm,
		"D0112K0XB00E0000": api.ErrForm, "D0112K0aB00E0000": api.ErrForm, "D0112K0\x00B00E0000": api.ErrForm, "D0112K2XB00E0001": api.ErrForm, "D0112K2AB00E0001": api.ErrForm,
		"D0112K0HB00E0000": api.ErrHead, "D0112K2AB00E0000": api.ErrHead, "D0112K0AC00E0000": api.ErrHead, "D0112K0AB01E0000": api.ErrHead, "D0112K0AB00X0000": api.ErrHead, "D0112k0AB00E0000": api.ErrHead, "D0112K0Ab00E0000": api.ErrHead, "D0112K0ABC1E0000": api.ErrHead,
	} {
		if got, err := Decode(s); got != (Header{}) || err != want {
			t.Errorf("Decode(%q) = %v, %d", s, got, err)
		}
	}
}

// P31.3: whatever is accepted is encoded as the same characters.
func TestChangedCharacters(t *testing.T) {
	for _, c := range good {
		for i := range len(c.want) {
			for x := range 256 {
				s := c.want[:i] + string([]byte{byte(x)}) + c.want[i+1:]
				h, err := Decode(s)
				if again, e := Encode(h); err == api.OK && (again != s || e != api.OK) {
					t.Errorf("Encode of Decode of %q", s)
				}
			}
		}
	}
	if _, err := Decode(strings.Repeat("D", 1000)); err != api.ErrForm {
		t.Error("a long string")
	}
}
