package load

import (
	"math"
	"strings"
	"testing"

	"claviger/api"
	"claviger/curve"
	"claviger/kind"
)

func key(k int) string {
	return "\x00" + strings.Repeat("\x01", kind.Size(k)-1)
}

// P36.1
func TestTotalAndPads(t *testing.T) {
	for letter, want := range map[string]int{"A": 48, "T": 32, "H": 80, "E": 80, "": 0, "X": 0, "AT": 0} {
		if Total(letter) != want {
			t.Errorf("Total(%q) = %d", letter, Total(letter))
		}
	}
	for k, want := range map[int]int{1: 30, 2: 22, 3: 14, 4: 14, 5: 6, 6: 46, 7: 14, 8: 50, 9: 46, 10: 30, 11: 12, 0: 0, -1: 0, 12: 0, math.MaxInt: 0} {
		if Pads(k) != want {
			t.Errorf("Pads(%d) = %d", k, Pads(k))
		}
	}
}

// P36.2, P36.3, P36.4
func TestPayloads(t *testing.T) {
	for k := 1; k <= 11; k++ {
		pads := strings.Repeat("p", Pads(k))
		bits := 8 * kind.Size(k)
		want := string([]byte{byte(bits >> 8), byte(bits)}) + key(k) + pads
		got, err := Make(k, key(k), pads)
		if got != want || err != api.OK || len(got) != Total(kind.Letter(k)) {
			t.Errorf("Make of kind %d = %x, %d", k, got, err)
		}
		if k2, key2, pads2, err := Take(kind.Letter(k), got); k2 != k || key2 != key(k) || pads2 != pads || err != api.OK {
			t.Errorf("Take of kind %d = %d, %x, %x, %d", k, k2, key2, pads2, err)
		}
		for _, bad := range []string{"", pads[1:], pads + "p"} {
			if got, err := Make(k, key(k), bad); got != "" || err != api.ErrPad {
				t.Errorf("Make with %d pads: %d", len(bad), err)
			}
		}
	}
}

// P36.2
func TestMakeErrors(t *testing.T) {
	for _, c := range []struct {
		k    int
		key  string
		want api.Errno
	}{{0, "", api.ErrKind}, {12, key(1), api.ErrKind}, {1, "", api.ErrLength}, {1, key(2), api.ErrLength}, {9, strings.Repeat("\x00", 32), api.ErrValue}, {9, curve.Order(2), api.ErrValue}, {1, key(1), api.ErrPad}} {
		if got, err := Make(c.k, c.key, ""); got != "" || err != c.want {
			t.Errorf("Make(%d, %x): %d, want %d", c.k, c.key, err, c.want)
		}
	}
}

// P36.3
func TestTakeErrors(t *testing.T) {
	payload := func(bits, n int, fill string) string {
		return string([]byte{byte(bits >> 8), byte(bits)}) + strings.Repeat(fill, n-2)
	}
	for _, c := range []struct {
		letter, payload string
		want            api.Errno
	}{
		{"", "", api.ErrForm}, {"X", "", api.ErrForm}, {"A", "", api.ErrForm}, {"A", payload(128, 47, "x"), api.ErrForm}, {"A", payload(128, 49, "x"), api.ErrForm}, {"T", payload(128, 48, "x"), api.ErrForm}, {"AT", payload(128, 48, "x"), api.ErrForm}, {"A", "x", api.ErrForm},
		{"A", payload(127, 48, "x"), api.ErrForm}, {"A", payload(129, 48, "x"), api.ErrForm}, {"A", payload(376, 48, "x"), api.ErrForm}, {"A", payload(65528, 48, "x"), api.ErrForm}, {"A", payload(1, 48, "x"), api.ErrForm},
		{"A", payload(368, 48, "x"), api.ErrKind}, {"A", payload(0, 48, "x"), api.ErrKind}, {"A", payload(8, 48, "x"), api.ErrKind}, {"A", payload(160, 48, "x"), api.ErrKind}, {"T", payload(240, 32, "x"), api.ErrKind}, {"T", payload(64, 32, "x"), api.ErrKind}, {"H", payload(128, 80, "x"), api.ErrKind}, {"E", payload(512, 80, "x"), api.ErrKind},
		{"E", payload(256, 80, "\x00"), api.ErrValue}, {"E", payload(256, 80, "\xff"), api.ErrValue}, {"E", payload(528, 80, "\xff"), api.ErrValue}, {"E", payload(256, 80, "x"), api.OK}, {"A", payload(192, 48, "x"), api.OK}, {"H", payload(256, 80, "x"), api.OK},
	} {
		k, key, pads, err := Take(c.letter, c.payload)
		if err != c.want || err != api.OK && (k != 0 || key != "" || pads != "") {
			t.Errorf("Take(%q, %x) = %d, %x, %x, %d, want %d", c.letter, c.payload, k, key, pads, err, c.want)
		}
		if again, _ := Make(k, key, pads); err == api.OK && again != c.payload {
			t.Errorf("Make of Take of %x", c.payload)
		}
	}
}
