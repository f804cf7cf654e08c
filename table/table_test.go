package table

import (
	"reflect"
	"slices"
	"strings"
	"testing"

	"claviger/api"
)

var want = []struct{ usage, letters, modes string }{
	{"B0", "AT", "NX"}, {"D0", "AT", "BDEN"}, {"D1", "E", "BDEN"}, {"K0", "AT", "BDEN"}, {"K1", "AT", "BDEN"}, {"M3", "T", "CGNV"}, {"M6", "AT", "CGNV"}, {"M7", "H", "CGNV"}, {"P0", "AT", "BDEN"}, {"S0", "E", "NSTV"},
	{"10", "AEHT", "BCDEGNSTVX"}, {"99", "AEHT", "BCDEGNSTVX"}, {"47", "AEHT", "BCDEGNSTVX"},
	{"", "", ""}, {"B", "", ""}, {"B1", "", ""}, {"b0", "", ""}, {"00", "", ""}, {"01", "", ""}, {"09", "", ""}, {"1", "", ""}, {"100", "", ""}, {"1A", "", ""}, {"A1", "", ""}, {"K0 ", "", ""}, {"1:", "", ""}, {"/1", "", ""}, {"1/", "", ""}, {"two digits", "", ""}, {"M1", "", ""}, {"K2", "", ""},
}

// P30.1, P30.3
func TestUsagesAndModes(t *testing.T) {
	for _, w := range want {
		if Modes(w.usage) != w.modes {
			t.Errorf("Modes(%q) = %q", w.usage, Modes(w.usage))
		}
		for c := range 256 {
			s := string([]byte{byte(c)})
			if Usage(w.usage, s) != strings.Contains(w.letters, s) || Mode(w.usage, s) != strings.Contains(w.modes, s) {
				t.Errorf("%q with %q", w.usage, s)
			}
		}
		for _, s := range []string{"", "AT", "BD", "NX", w.letters + w.modes} {
			if Usage(w.usage, s) || Mode(w.usage, s) && len(s) != 1 {
				t.Errorf("%q with %q", w.usage, s)
			}
		}
	}
	for letter, l := range map[string][]string{"A": {"B0", "D0", "K0", "K1", "M6", "P0"}, "T": {"B0", "D0", "K0", "K1", "M3", "M6", "P0"}, "E": {"D1", "S0"}, "H": {"M7"}, "": nil, "X": nil, "AT": nil, "a": nil} {
		if got := Usages(letter); !slices.Equal(got, l) {
			t.Errorf("Usages(%q) = %q", letter, got)
		}
	}
	Usages("A")[0] = "changed"
	if !reflect.DeepEqual(Usages("H"), []string{"M7"}) || Usages("A")[0] != "B0" {
		t.Error("Usages shares its list")
	}
}

// P30.2
func TestVersionAndExport(t *testing.T) {
	allowed := map[string]bool{"00": true}
	for n := 10; n < 100; n++ {
		allowed[string([]byte{byte('0' + n/10), byte('0' + n%10)})] = true
		allowed[string([]byte{'c', byte('1' + n%9)})] = true
	}
	for a := range 256 {
		for b := range 256 {
			if s := string([]byte{byte(a), byte(b)}); Version(s) != allowed[s] {
				t.Errorf("Version(%q)", s)
			}
		}
		if s := string([]byte{byte(a)}); Version(s) || Export(s) != (s == "E" || s == "N" || s == "S") {
			t.Errorf("%q", s)
		}
	}
	for _, s := range []string{"", "000", "c", "c10", "100"} {
		if Version(s) {
			t.Errorf("Version(%q)", s)
		}
	}
	for _, s := range []string{"", "EN", "ENS", "NS", "EE"} {
		if Export(s) {
			t.Errorf("Export(%q)", s)
		}
	}
}

// P30.2, P30.3
func TestCheck(t *testing.T) {
	for _, w := range want {
		for _, letter := range w.letters {
			for _, mode := range w.modes {
				if err := Check(api.Head{Usage: w.usage, Mode: string(mode), Version: "c1", Export: "S"}, string(letter)); err != api.OK {
					t.Errorf("Check of %s, %c, %c: %d", w.usage, letter, mode, err)
				}
			}
		}
	}
	for _, c := range []struct {
		h      api.Head
		letter string
	}{
		{api.Head{}, "A"}, {api.Head{Usage: "K0", Mode: "B", Version: "00", Export: "E"}, "H"}, {api.Head{Usage: "K0", Mode: "B", Version: "00", Export: "E"}, ""}, {api.Head{Usage: "K0", Mode: "G", Version: "00", Export: "E"}, "A"}, {api.Head{Usage: "K2", Mode: "B", Version: "00", Export: "E"}, "A"},
		{api.Head{Usage: "K0", Mode: "B", Version: "01", Export: "E"}, "A"}, {api.Head{Usage: "K0", Mode: "B", Version: "00", Export: "X"}, "A"}, {api.Head{Usage: "K0", Mode: "", Version: "00", Export: "E"}, "A"}, {api.Head{Usage: "K0", Mode: "B", Version: "", Export: "E"}, "A"}, {api.Head{Usage: "K0", Mode: "B", Version: "00", Export: ""}, "A"},
	} {
		if err := Check(c.h, c.letter); err != api.ErrHead {
			t.Errorf("Check(%v, %q) = %d", c.h, c.letter, err)
		}
	}
}
