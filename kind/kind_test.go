package kind

import (
	"math"
	"reflect"
	"strings"
	"testing"

	"claviger/api"
	"claviger/curve"
)

var ec = []int{1, 2, 840, 10045, 2, 1}

var want = []struct {
	name   string
	size   int
	letter string
	curve  int
	arcs   []int
}{
	{"AES-128", 16, "A", 0, []int{2, 16, 840, 1, 101, 3, 4, 1, 1}}, {"AES-192", 24, "A", 0, []int{2, 16, 840, 1, 101, 3, 4, 1, 21}}, {"AES-256", 32, "A", 0, []int{2, 16, 840, 1, 101, 3, 4, 1, 41}},
	{"TDES-2", 16, "T", 0, []int{1, 2, 840, 113549, 3, 7}}, {"TDES-3", 24, "T", 0, []int{1, 2, 840, 113549, 3, 7}}, {"HMAC-SHA256", 32, "H", 0, []int{1, 2, 840, 113549, 2, 9}}, {"HMAC-SHA512", 64, "H", 0, []int{1, 2, 840, 113549, 2, 11}},
	{"EC-P224", 28, "E", 1, ec}, {"EC-P256", 32, "E", 2, ec}, {"EC-P384", 48, "E", 3, ec}, {"EC-P521", 66, "E", 4, ec},
}

// P23.1, P23.3
func TestTable(t *testing.T) {
	for i, w := range want {
		k := i + 1
		if Name(k) != w.name || Size(k) != w.size || Letter(k) != w.letter || Curve(k) != w.curve || !reflect.DeepEqual(Arcs(k), w.arcs) {
			t.Errorf("kind %d: %s, %d, %s, %d, %v", k, Name(k), Size(k), Letter(k), Curve(k), Arcs(k))
		}
		if got, ok := By(w.arcs, w.curve, w.size); got != k || !ok {
			t.Errorf("By(%v, %d, %d) = %d, %t", w.arcs, w.curve, w.size, got, ok)
		}
		if got, ok := Of(w.letter, w.size); got != k || !ok {
			t.Errorf("Of(%s, %d) = %d, %t", w.letter, w.size, got, ok)
		}
	}
	for _, k := range []int{0, -1, 12, math.MinInt, math.MaxInt} {
		if Name(k) != "" || Size(k) != 0 || Letter(k) != "" || Curve(k) != 0 || len(Arcs(k)) != 0 {
			t.Errorf("kind %d", k)
		}
	}
	Arcs(1)[0] = 9
	if Arcs(1)[0] != 2 {
		t.Error("Arcs shares its list")
	}
}

// P23.1
func TestNone(t *testing.T) {
	for _, c := range []struct {
		arcs        []int
		curve, size int
	}{{nil, 0, 0}, {nil, 0, 16}, {ec, 0, 32}, {ec, 2, 31}, {ec, 1, 32}, {ec, 5, 32}, {[]int{2, 16, 840, 1, 101, 3, 4, 1, 1}, 0, 24}, {[]int{2, 16, 840, 1, 101, 3, 4, 1, 1}, 1, 16}, {[]int{1, 2, 840, 113549, 3, 7}, 0, 8}, {[]int{1, 2}, 0, 16}, {[]int{7}, 0, 16}} {
		if k, ok := By(c.arcs, c.curve, c.size); k != 0 || ok {
			t.Errorf("By(%v, %d, %d) = %d", c.arcs, c.curve, c.size, k)
		}
	}
	for letter, size := range map[string]int{"": 0, "X": 16, "a": 16, "A": 20, "AT": 16, "T": 32, "H": 16, "E": 64} {
		if k, ok := Of(letter, size); k != 0 || ok {
			t.Errorf("Of(%q, %d) = %d", letter, size, k)
		}
	}
	for letter, most := range map[string]int{"A": 32, "T": 24, "H": 64, "E": 66, "": 0, "X": 0, "AT": 0, "a": 0} {
		if Most(letter) != most {
			t.Errorf("Most(%q) = %d", letter, Most(letter))
		}
	}
}

// P23.2
func TestCheck(t *testing.T) {
	for i, w := range want {
		k := i + 1
		key := strings.Repeat("\x01", w.size)
		if w.curve == 4 {
			key = "\x00" + key[1:]
		}
		if err := Check(k, key); err != api.OK {
			t.Errorf("Check of kind %d: %d", k, err)
		}
		for _, bad := range []string{"", key[1:], key + "x", "\x00" + key} {
			if err := Check(k, bad); err != api.ErrLength {
				t.Errorf("Check of kind %d with %d bytes: %d", k, len(bad), err)
			}
		}
		zero := api.OK
		if w.curve != 0 {
			zero = api.ErrValue
			if err := Check(k, curve.Order(w.curve)); err != api.ErrValue {
				t.Errorf("Check of the order of kind %d: %d", k, err)
			}
		}
		for _, key := range []string{strings.Repeat("\x00", w.size), strings.Repeat("\xff", w.size)} {
			if err := Check(k, key); err != zero {
				t.Errorf("Check of kind %d: %d", k, err)
			}
		}
	}
	for _, k := range []int{0, -1, 12, math.MaxInt} {
		if Check(k, "") != api.ErrKind || Check(k, strings.Repeat("k", 16)) != api.ErrKind {
			t.Errorf("Check of kind %d", k)
		}
	}
}
