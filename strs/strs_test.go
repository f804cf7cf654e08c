package strs

import (
	"math"
	"strings"
	"testing"
	"unicode/utf8"

	"claviger/api"
)

// P18.1, P18.4
func TestBool(t *testing.T) {
	if Bool(true) != "\xff" || Bool(false) != "\x00" {
		t.Error("Bool")
	}
	for _, want := range []bool{true, false} {
		if got, ok := Unbool(Bool(want)); got != want || !ok {
			t.Errorf("Unbool of %t", want)
		}
	}
	for c := 1; c < 255; c++ {
		if got, ok := Unbool(string([]byte{byte(c)})); got || ok {
			t.Errorf("Unbool(%d)", c)
		}
	}
	for _, c := range []string{"", "\xff\xff", "\x00\x00", "\xff\x00"} {
		if got, ok := Unbool(c); got || ok {
			t.Errorf("Unbool(%x)", c)
		}
	}
}

// P18.1, P18.4
func TestBits(t *testing.T) {
	for _, c := range []struct {
		s      string
		unused int
		want   string
		ok     bool
	}{
		{"\xf0", 4, "\x04\xf0", true}, {"\xf1", 4, "", false}, {"", 0, "\x00", true}, {"", 1, "", false}, {"\xff", 0, "\x00\xff", true}, {"\x80", 7, "\x07\x80", true}, {"\x80", 8, "", false}, {"\x00", -1, "", false},
		{"\x00", 7, "\x07\x00", true}, {"\xff\xfe", 1, "\x01\xff\xfe", true}, {"\xfe\xff", 1, "", false}, {"\xc0", 7, "", false}, {"\x00", math.MaxInt, "", false}, {"\x00", math.MinInt, "", false},
	} {
		if got, ok := Bits(c.s, c.unused); got != c.want || ok != c.ok {
			t.Errorf("Bits(%x, %d) = %x, %t", c.s, c.unused, got, ok)
		}
		if s, unused, ok := Unbits(c.want); c.ok && (s != c.s || unused != c.unused || !ok) {
			t.Errorf("Unbits(%x) = %x, %d, %t", c.want, s, unused, ok)
		}
	}
	for _, c := range []string{"", "\x01", "\x07", "\x08\x00", "\xff\x00", "\x04\xf1", "\x01\x01", "\x07\xc0"} {
		if s, unused, ok := Unbits(c); s != "" || unused != 0 || ok {
			t.Errorf("Unbits(%x) = %x, %d, %t", c, s, unused, ok)
		}
	}
	for a := range 256 {
		for b := range 256 {
			c := string([]byte{byte(a), byte(b)})
			s, unused, ok := Unbits(c)
			if want := a < 8 && b%(1<<min(a, 8)) == 0; ok != want {
				t.Errorf("Unbits(%x) = %t", c, ok)
			}
			if got, fine := Bits(s, unused); ok && (got != c || !fine) {
				t.Errorf("Bits of Unbits of %x", c)
			}
		}
	}
}

// P18.2
func TestUtf(t *testing.T) {
	for _, s := range []string{"", "abc", "\x00\x7f", "\u0080", "\u07ff", "\u0800", "\ud7ff", "\ue000", "\uffff", "\U00010000", "\U0010ffff", "\ufffd", "a\ufffdb", "\ufffd\ufffd"} {
		if !Utf(s) {
			t.Errorf("Utf(%x)", s)
		}
	}
	for _, s := range []string{"\x80", "\xbf", "\xc0\x80", "\xc1\xbf", "\xc2", "\xc2a", "\xe0\x80\x80", "\xe0\x9f\xbf", "\xe2\x82", "\xed\xa0\x80", "\xed\xbf\xbf", "\xef\xbf", "\xef\xbf\xbd\xef\xbf", "\xf0\x80\x80\x80", "\xf0\x8f\xbf\xbf", "\xf4\x90\x80\x80", "\xf5\x80\x80\x80", "\xf8\x88\x80\x80\x80", "\xff", "a\xffb", "\xc2\x80\x80"} {
		if Utf(s) {
			t.Errorf("Utf(%x)", s)
		}
	}
	for a := 0x80; a < 0x100; a++ {
		for b := range 256 {
			for _, more := range []string{"", "a", "\x80", "\x80\x80", "\xbf\xbf", "\xbf\xbd"} {
				if s := string([]byte{byte(a), byte(b)}) + more; Utf(s) != utf8.ValidString(s) {
					t.Fatalf("Utf(%x)", s)
				}
			}
		}
	}
}

// P18.2
func TestPrintable(t *testing.T) {
	allowed := "ABCDEFGHIJKLMNOPQRSTUVWXYZabcdefghijklmnopqrstuvwxyz0123456789 '()+,-./:=?"
	for c := range 256 {
		s := string([]byte{byte(c)})
		if want := strings.Contains(allowed, s); Printable(s) != want || Printable("a"+s) != want {
			t.Errorf("Printable(%x)", s)
		}
	}
	for _, s := range []string{"\u0100", "\u0141", "\ufffd", "a*b", "a_b", "\xffabc"} {
		if Printable(s) {
			t.Errorf("Printable(%q)", s)
		}
	}
	if !Printable("") || !Printable(allowed) {
		t.Error("Printable")
	}
}

// P18.3
func TestRight(t *testing.T) {
	for _, c := range []struct {
		tag  int
		yes  []string
		none []string
	}{
		{api.Boolean, []string{"\x00", "\xff"}, []string{"", "\x01", "\x00\x00"}},
		{api.Integer, []string{"\x00", "\x00\x80", strings.Repeat("\x01", 50)}, []string{"", "\x00\x7f", "\xff\xff"}},
		{api.Bits, []string{"\x00", "\x04\xf0"}, []string{"", "\x04\xf1", "\x01"}},
		{api.Octets, []string{"", "\x00", "\xff\xff"}, nil},
		{api.Null, []string{""}, []string{"\x00", "a"}},
		{api.Name, []string{"\x2a\x03", "\x88\x37"}, []string{"", "\x80\x01", "\x88"}},
		{api.Utf, []string{"", "abc", "\u00e9"}, []string{"\xe9", "\xc0\x80"}},
		{api.Printable, []string{"", "abc"}, []string{"*", "\u00e9"}},
	} {
		for _, s := range c.yes {
			if !Right(c.tag, s) {
				t.Errorf("Right(%d, %x)", c.tag, s)
			}
		}
		for _, s := range c.none {
			if Right(c.tag, s) {
				t.Errorf("Right(%d, %x)", c.tag, s)
			}
		}
	}
	known := map[int]bool{1: true, 2: true, 3: true, 4: true, 5: true, 6: true, 12: true, 19: true}
	for _, tag := range []int{-1, 0, 7, 8, 9, 10, 11, 13, 14, 15, 16, 17, 18, 20, 22, 23, 24, 30, 31, 1000, math.MaxInt, math.MinInt} {
		for _, s := range []string{"", "\x00", "a"} {
			if known[tag] || Right(tag, s) {
				t.Errorf("Right(%d, %x)", tag, s)
			}
		}
	}
}
