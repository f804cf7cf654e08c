package whole

import (
	"math"
	"math/big"
	"strings"
	"testing"

	"claviger/api"
)

var numbers = []struct {
	n int
	c string
}{
	{0, "\x00"}, {1, "\x01"}, {127, "\x7f"}, {128, "\x00\x80"}, {255, "\x00\xff"}, {256, "\x01\x00"}, {-1, "\xff"}, {-128, "\x80"}, {-129, "\xff\x7f"}, {-256, "\xff\x00"}, {-257, "\xfe\xff"},
	{65536, "\x01\x00\x00"}, {1<<24 + 5, "\x01\x00\x00\x05"}, {-(1 << 24), "\xff\x00\x00\x00"}, {math.MaxInt, "\x7f" + strings.Repeat("\xff", 7)}, {math.MinInt, "\x80" + strings.Repeat("\x00", 7)}, {math.MaxInt32, "\x7f\xff\xff\xff"}, {math.MinInt32, "\x80\x00\x00\x00"},
}

// P16.1, P16.3
func TestEncode(t *testing.T) {
	for _, c := range numbers {
		if got := Encode(c.n); got != c.c {
			t.Errorf("Encode(%d) = %x", c.n, got)
		}
		if n, ok := Decode(c.c); n != c.n || !ok {
			t.Errorf("Decode(%x) = %d, %t", c.c, n, ok)
		}
	}
	for n := -70000; n < 70000; n++ {
		if got, ok := Decode(Encode(n)); got != n || !ok || !Right(Encode(n)) {
			t.Fatalf("%d", n)
		}
	}
}

// P16.1
func TestRight(t *testing.T) {
	for _, c := range []string{"", "\x00\x00", "\x00\x7f", "\xff\x80", "\xff\xff", "\x00\x00\x80", "\xff\xff\x7f", "\x00" + strings.Repeat("\x01", 9)} {
		if Right(c) {
			t.Errorf("Right(%x)", c)
		}
		if n, ok := Decode(c); n != 0 || ok {
			t.Errorf("Decode(%x) = %d, %t", c, n, ok)
		}
	}
	for _, c := range []string{"\x00\x80" + strings.Repeat("\xff", 7), strings.Repeat("\x01", 9), "\x80" + strings.Repeat("\x00", 8), "\x00" + strings.Repeat("\xff", 8)} {
		if n, ok := Decode(c); n != 0 || ok || !Right(c) {
			t.Errorf("Decode(%x) = %d, %t", c, n, ok)
		}
	}
	for a := range 256 {
		if !Right(string([]byte{byte(a)})) {
			t.Errorf("Right of one byte %d", a)
		}
		for b := range 256 {
			c := string([]byte{byte(a), byte(b)})
			nine := a<<1 | b>>7
			n, ok := Decode(c)
			if want := nine != 0 && nine != 0x1ff; Right(c) != want || ok != want || ok && (n != int(int16(a<<8|b)) || Encode(n) != c) {
				t.Errorf("%x: %d, %t", c, n, ok)
			}
		}
	}
}

// P16.2
func TestBig(t *testing.T) {
	for s, want := range map[string]string{"": "\x00", "\x00": "\x00", "\x00\x00": "\x00", "\x01": "\x01", "\x80": "\x00\x80", "\x00\x80": "\x00\x80", "\x00\x00\x7f": "\x7f", "\xff" + strings.Repeat("\x00", 30): "\x00\xff" + strings.Repeat("\x00", 30)} {
		if got := Big(s); got != want || !Right(got) {
			t.Errorf("Big(%x) = %x", s, got)
		}
		trimmed := string(new(big.Int).SetBytes([]byte(s)).Bytes())
		if got, ok := Unbig(want); got != trimmed || !ok {
			t.Errorf("Unbig(%x) = %x, %t", want, got, ok)
		}
	}
	for _, c := range []string{"", "\x00\x00", "\x00\x01", "\xff", "\x80\x00", "\x00\x00\x80", "\xff\x7f"} {
		if got, ok := Unbig(c); got != "" || ok {
			t.Errorf("Unbig(%x) = %x, %t", c, got, ok)
		}
	}
}

// P16.2
func TestWide(t *testing.T) {
	for _, c := range []struct {
		s    string
		n    int
		want string
		ok   bool
	}{
		{"\x01\x02", 4, "\x00\x00\x01\x02", true}, {"\x00\x00\x01\x02", 2, "\x01\x02", true}, {"\x00\x01\x02", 3, "\x00\x01\x02", true}, {"\x01\x02\x03", 2, "", false}, {"", 0, "", true}, {"\x00\x00", 0, "", true}, {"\x00", 2, "\x00\x00", true}, {"", 3, "\x00\x00\x00", true},
		{"\x01", 0, "", false}, {"", -1, "", false}, {"", math.MinInt, "", false}, {"", api.MaxSize + 1, "", false}, {"\x01", math.MaxInt, "", false}, {"\x01", api.MaxSize, strings.Repeat("\x00", api.MaxSize-1) + "\x01", true},
	} {
		if got, ok := Wide(c.s, c.n); got != c.want || ok != c.ok {
			t.Errorf("Wide(%x, %d) has %d bytes, %t", c.s, c.n, len(got), ok)
		}
	}
}
