package field

import (
	"math"
	"strings"
	"testing"
)

// slow multiplies as polynomials and reduces afterwards.
func slow(a, b byte) byte {
	p := 0
	for k := range 8 {
		if b>>k&1 == 1 {
			p ^= int(a) << k
		}
	}
	for k := 14; k >= 8; k-- {
		if p>>k&1 == 1 {
			p ^= 0x11b << (k - 8)
		}
	}
	return byte(p)
}

// P5.1
func TestAddTwiceMul(t *testing.T) {
	if Add(0xf0, 0xff) != 0x0f || Twice(128) != 27 || Twice(1) != 2 || Twice(0x57) != 0xae || Twice(0xae) != 0x47 || Mul(87, 131) != 193 {
		t.Error("examples")
	}
	for a := range 256 {
		if Twice(byte(a)) != slow(byte(a), 2) {
			t.Errorf("Twice(%d)", a)
		}
		for b := range 256 {
			if Mul(byte(a), byte(b)) != slow(byte(a), byte(b)) || Add(byte(a), byte(b)) != byte(a)^byte(b) {
				t.Errorf("%d and %d", a, b)
			}
		}
	}
}

// P5.2
func TestPow(t *testing.T) {
	for a := range 256 {
		want := byte(1)
		for n := range 300 {
			if got := Pow(byte(a), n); got != want {
				t.Fatalf("Pow(%d, %d) = %d", a, n, got)
			}
			want = slow(want, byte(a))
		}
		if Pow(byte(a), -1) != 1 || Pow(byte(a), math.MinInt) != 1 || Pow(byte(a), 0) != 1 {
			t.Errorf("Pow of %d without factors", a)
		}
	}
	// 2^63 - 1 is 127 modulo 255.
	if Pow(3, math.MaxInt) != Pow(3, 127) || Pow(0, math.MaxInt) != 0 {
		t.Error("Pow with many factors")
	}
}

// P5.2
func TestInvAndLog(t *testing.T) {
	if Inv(0) != 0 || Inv(1) != 1 || Inv(0x53) != 0xca {
		t.Error("Inv")
	}
	for a := 1; a < 256; a++ {
		if Mul(byte(a), Inv(byte(a))) != 1 {
			t.Errorf("Inv(%d)", a)
		}
		n, ok := Log(byte(a))
		if !ok || n < 0 || n > 254 || Pow(3, n) != byte(a) {
			t.Errorf("Log(%d) = %d, %t", a, n, ok)
		}
	}
	if n, ok := Log(0); n != 0 || ok {
		t.Error("Log(0)")
	}
	if n, ok := Log(1); n != 0 || !ok {
		t.Error("Log(1)")
	}
}

// P5.3
func TestDot(t *testing.T) {
	for _, c := range []struct {
		a, b string
		want byte
	}{{"", "", 0}, {"", "abc", 0}, {"\x57", "\x83", 0xc1}, {"\x57\x01", "\x83", 0xc1}, {"\x57", "\x83\x01", 0xc1}, {"\x57\x02", "\x83\x03", 0xc7}, {"\x02\x03\x01\x01", "\xdb\x13\x53\x45", 0x8e}} {
		if got := Dot(c.a, c.b); got != c.want {
			t.Errorf("Dot(%x, %x) = %x", c.a, c.b, got)
		}
	}
	if s := strings.Repeat("x", 1000); Dot(s, s) != 0 {
		t.Error("an even number of equal products")
	}
}

// P5.4
func TestLaws(t *testing.T) {
	powers := map[byte]bool{}
	for n := range 255 {
		powers[Pow(3, n)] = true
	}
	if len(powers) != 255 || powers[0] {
		t.Error("powers of 3")
	}
	for i := range 200000 {
		a, b, c := byte(i), byte(i*7>>3), byte(i*31>>5)
		if Mul(a, b) != Mul(b, a) || Mul(a, Mul(b, c)) != Mul(Mul(a, b), c) || Mul(a, Add(b, c)) != Add(Mul(a, b), Mul(a, c)) || Add(a, b) != Add(b, a) || Add(a, Add(b, c)) != Add(Add(a, b), c) {
			t.Fatalf("%d, %d, %d", a, b, c)
		}
	}
}
