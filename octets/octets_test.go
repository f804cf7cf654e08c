package octets

import (
	"math"
	"reflect"
	"strings"
	"testing"

	"claviger/api"
)

// P1.1
func TestPut(t *testing.T) {
	for _, c := range []struct {
		n     uint64
		width int
		want  string
	}{
		{258, 2, "\x01\x02"}, {258, 1, "\x02"}, {258, 4, "\x00\x00\x01\x02"}, {0, 1, "\x00"},
		{math.MaxUint64, 8, strings.Repeat("\xff", 8)}, {0x0102030405060708, 8, "\x01\x02\x03\x04\x05\x06\x07\x08"},
		{0x0102030405060708, 3, "\x06\x07\x08"}, {1, 0, ""}, {1, 9, ""}, {1, -1, ""}, {1, math.MinInt, ""}, {1, math.MaxInt, ""},
	} {
		if got := Put(c.n, c.width); got != c.want {
			t.Errorf("Put(%d, %d) = %x, want %x", c.n, c.width, got, c.want)
		}
	}
}

// P1.1
func TestGet(t *testing.T) {
	for _, c := range []struct {
		s    string
		want uint64
		ok   bool
	}{
		{"", 0, false}, {"\x00", 0, true}, {"\x01\x02", 258, true}, {"\x00\x01\x00", 256, true},
		{strings.Repeat("\xff", 8), math.MaxUint64, true}, {"123456789", 0, false},
	} {
		if got, ok := Get(c.s); got != c.want || ok != c.ok {
			t.Errorf("Get(%x) = %d, %t", c.s, got, ok)
		}
	}
}

// P1.2
func TestCut(t *testing.T) {
	for _, c := range []struct {
		s     string
		at, n int
		want  string
	}{
		{"abcdef", 0, 2, "ab"}, {"abcdef", 1, 1, "b"}, {"abcdef", 0, 1, "a"}, {"abcdef", 2, 3, "cde"}, {"abcdef", 4, 2, "ef"}, {"abcdef", 4, 9, "ef"}, {"abcdef", 5, math.MaxInt, "f"},
		{"abcdef", 6, 1, ""}, {"abcdef", 7, 1, ""}, {"abcdef", -1, 3, ""}, {"abcdef", 0, 0, ""}, {"abcdef", 0, -1, ""},
		{"", 0, 1, ""}, {"abc", math.MaxInt, math.MaxInt, ""}, {"abc", math.MinInt, 5, ""},
	} {
		if got := Cut(c.s, c.at, c.n); got != c.want {
			t.Errorf("Cut(%q, %d, %d) = %q", c.s, c.at, c.n, got)
		}
	}
}

// P1.2
func TestPieces(t *testing.T) {
	for _, c := range []struct {
		s    string
		n    int
		want []string
	}{
		{"abcde", 2, []string{"ab", "cd", "e"}}, {"abcd", 2, []string{"ab", "cd"}}, {"abc", 1, []string{"a", "b", "c"}},
		{"abc", 3, []string{"abc"}}, {"abc", math.MaxInt, []string{"abc"}}, {"", 3, nil}, {"abc", 0, nil}, {"abc", -2, nil},
	} {
		if got := Pieces(c.s, c.n); !reflect.DeepEqual(got, c.want) {
			t.Errorf("Pieces(%q, %d) = %q", c.s, c.n, got)
		}
	}
}

// P1.2
func TestZeros(t *testing.T) {
	for _, n := range []int{1, 2, 16, api.MaxBlob} {
		if Zeros(n) != strings.Repeat("\x00", n) {
			t.Errorf("Zeros(%d)", n)
		}
	}
	for _, n := range []int{0, -1, math.MinInt, api.MaxBlob + 1, math.MaxInt} {
		if Zeros(n) != "" {
			t.Errorf("Zeros(%d) is not empty", n)
		}
	}
}

// P1.3
func TestXorAndJoin(t *testing.T) {
	for _, c := range [][3]string{{"\x03", "\x05", "\x06"}, {"\xff\x0f", "\xf0", "\x0f"}, {"\xf0", "\xff\x0f", "\x0f"}, {"", "abc", ""}, {"ab", "ab", "\x00\x00"}} {
		if got := Xor(c[0], c[1]); got != c[2] {
			t.Errorf("Xor(%x, %x) = %x", c[0], c[1], got)
		}
	}
	if Join() != "" || Join("", "") != "" || Join("a") != "a" || Join("ab", "", "\x00c", "d") != "ab\x00cd" {
		t.Error("Join")
	}
}

// P1.3
func TestPadAndTrim(t *testing.T) {
	for _, c := range []struct {
		s    string
		n    int
		want string
	}{
		{"abc", 2, "abc\x00"}, {"abcd", 2, "abcd"}, {"", 8, ""}, {"a", 8, "a\x00\x00\x00\x00\x00\x00\x00"}, {"abc", 1, "abc"},
		{"abc", 0, "abc"}, {"abc", -4, "abc"}, {"abc", 65536, "abc"}, {"abc", math.MaxInt, "abc"}, {"a", 65535, "a" + strings.Repeat("\x00", 65534)},
	} {
		if got := Pad(c.s, c.n); got != c.want {
			t.Errorf("Pad(%q, %d) has %d bytes", c.s, c.n, len(got))
		}
	}
	for s, want := range map[string]string{"": "", "\x00": "", "\x00\x00\x00": "", "\x00\x01\x00": "\x01\x00", "abc": "abc", "\x00a": "a"} {
		if got := Trim(s); got != want {
			t.Errorf("Trim(%q) = %q", s, got)
		}
	}
}

// P1.4
func TestInverses(t *testing.T) {
	for _, n := range []uint64{0, 1, 255, 256, 1 << 40, math.MaxUint64, math.MaxInt64} {
		if got, ok := Get(Put(n, 8)); got != n || !ok {
			t.Errorf("Get(Put(%d)) = %d, %t", n, got, ok)
		}
	}
	for _, s := range []string{"", "a", "abcdefg", strings.Repeat("xyz", 100)} {
		for n := 1; n < 12; n++ {
			if Join(Pieces(s, n)...) != s {
				t.Errorf("Join(Pieces(%q, %d))", s, n)
			}
		}
		if b := strings.Repeat("\xa5", len(s)); Xor(Xor(s, b), b) != s {
			t.Errorf("Xor of %q", s)
		}
	}
}
