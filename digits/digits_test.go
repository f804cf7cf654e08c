package digits

import (
	"math"
	"strconv"
	"testing"
)

// P2.1
func TestValue(t *testing.T) {
	want := map[byte]int{}
	for i, c := range []byte("0123456789ABCDEF") {
		want[c] = i
	}
	for c := range 256 {
		v, ok := want[byte(c)]
		if !ok {
			v = -1
		}
		if got := Value(byte(c)); got != v {
			t.Errorf("Value(%d) = %d", c, got)
		}
	}
}

// P2.1
func TestHex(t *testing.T) {
	for s, want := range map[string]string{"": "", "\xab\x05": "AB05", "\x00": "00", "\xff\x10": "FF10", "az": "617A"} {
		if got := Hex(s); got != want {
			t.Errorf("Hex(%q) = %q", s, got)
		}
		if got, ok := Unhex(want); got != s || !ok {
			t.Errorf("Unhex(%q) = %q, %t", want, got, ok)
		}
	}
	for _, s := range []string{"A", "ABC", "ab", "0g", "G0", "0G", " 0", "0 ", "+1", "0x", "\xff\xff", "AB0:"} {
		if got, ok := Unhex(s); got != "" || ok {
			t.Errorf("Unhex(%q) = %q, %t", s, got, ok)
		}
	}
}

// P2.2
func TestDec(t *testing.T) {
	for _, c := range []struct {
		n, width int
		want     string
	}{
		{7, 4, "0007"}, {0, 1, "0"}, {0, 3, "000"}, {70, 2, "70"}, {70, 1, ""}, {-1, 4, ""}, {math.MinInt, 18, ""},
		{5, 0, ""}, {5, -1, ""}, {5, 19, ""}, {5, 18, "000000000000000005"}, {999999999999999999, 18, "999999999999999999"}, {1000000000000000000, 18, ""}, {9999, 4, "9999"}, {10000, 4, ""},
	} {
		if got := Dec(c.n, c.width); got != c.want {
			t.Errorf("Dec(%d, %d) = %q", c.n, c.width, got)
		}
	}
}

// P2.2
func TestUndec(t *testing.T) {
	for s, want := range map[string]int{"0": 0, "0007": 7, "42": 42, "999999999999999999": 999999999999999999, "000000000000000001": 1} {
		if got, ok := Undec(s); got != want || !ok {
			t.Errorf("Undec(%q) = %d, %t", s, got, ok)
		}
	}
	for _, s := range []string{"", "-1", "+1", "1a", "a", " 1", "1 ", "0000000000000000001", "/", ":", "1:"} {
		if got, ok := Undec(s); got != 0 || ok {
			t.Errorf("Undec(%q) = %d, %t", s, got, ok)
		}
	}
}

// P2.3, P2.4
func TestNum(t *testing.T) {
	for _, n := range []int{0, 1, -1, 7, 10, -10, 99, 100, 1234567890, math.MaxInt, math.MinInt, math.MinInt + 1, -9} {
		want := strconv.Itoa(n)
		if got := Num(n); got != want {
			t.Errorf("Num(%d) = %q", n, got)
		}
		if got, ok := Unnum(want); got != n || !ok {
			t.Errorf("Unnum(%q) = %d, %t", want, got, ok)
		}
	}
	for _, s := range []string{"", "-", "+1", "-0", "007", "00", "-01", "1 ", " 1", "1a", "a", "--1", "1-", "1.0", "9223372036854775808", "-9223372036854775809", "18446744073709551616", "18446744073709551617", "99999999999999999999999", "0x1", "1_0"} {
		if got, ok := Unnum(s); got != 0 || ok {
			t.Errorf("Unnum(%q) = %d, %t", s, got, ok)
		}
	}
}

// P2.4
func TestInverses(t *testing.T) {
	for n := range 2000 {
		if got, ok := Undec(Dec(n, 4)); got != n || !ok {
			t.Fatalf("Undec(Dec(%d))", n)
		}
		s := string([]byte{byte(n), byte(n >> 8), byte(n * 7)})
		if got, ok := Unhex(Hex(s)); got != s || !ok {
			t.Fatalf("Unhex(Hex(%q))", s)
		}
		if got, ok := Unnum(Num(n - 1000)); got != n-1000 || !ok {
			t.Fatalf("Unnum(Num(%d))", n-1000)
		}
	}
}
