package kdf

import (
	"math"
	"strings"
	"testing"

	"claviger/api"
	"claviger/cmac"
)

// P12.1
func TestRounds(t *testing.T) {
	for n, want := range map[int]int{math.MinInt: 0, -1: 0, 0: 0, 1: 1, 16: 1, 17: 2, 32: 2, 33: 3, 4064: 254, 4065: 255, 4080: 255, 4081: 0, math.MaxInt: 0} {
		if Rounds(n) != want {
			t.Errorf("Rounds(%d) = %d", n, Rounds(n))
		}
	}
}

// P12.1, P12.3
func TestCounter(t *testing.T) {
	for _, key := range []string{"sixteen bytes ok", "twenty-four bytes are it", "thirty-two bytes are also allowed"[:32]} {
		for _, fixed := range []string{"", "fixed", strings.Repeat("long ", 20)} {
			all := ""
			for i := range 255 {
				tag, _ := cmac.Tag(key, string([]byte{byte(i + 1)})+fixed)
				all += tag
			}
			for _, n := range []int{1, 15, 16, 17, 24, 32, 100, 4079, 4080} {
				if got, err := Counter(key, fixed, n); got != all[:n] || err != api.OK {
					t.Errorf("Counter of %d bytes: %d", n, err)
				}
			}
		}
	}
}

// P12.1
func TestErrors(t *testing.T) {
	for _, c := range []struct {
		key  string
		n    int
		want api.Errno
	}{
		{"", 16, api.ErrKey}, {"short", 16, api.ErrKey}, {"short", 0, api.ErrKey}, {strings.Repeat("k", 33), 9999, api.ErrKey}, {strings.Repeat("k", 17), 1, api.ErrKey},
		{"sixteen bytes ok", 0, api.ErrSize}, {"sixteen bytes ok", -1, api.ErrSize}, {"sixteen bytes ok", 4081, api.ErrSize}, {"sixteen bytes ok", math.MaxInt, api.ErrSize}, {"sixteen bytes ok", math.MinInt, api.ErrSize},
	} {
		if got, err := Counter(c.key, "fixed", c.n); got != "" || err != c.want {
			t.Errorf("Counter(%q, %d): %d", c.key, c.n, err)
		}
	}
}

// P12.2
func TestFixed(t *testing.T) {
	for _, c := range []struct {
		label, context string
		bits           int
		want           string
	}{
		{"label", "context", 256, "label\x00context\x00\x00\x01\x00"}, {"", "", 0, "\x00\x00\x00\x00\x00"}, {"a", "", -1, "a\x00\x00\x00\x00\x00"},
		{"", "b", math.MinInt, "\x00b\x00\x00\x00\x00"}, {"", "", 1<<32 + 5, "\x00\x00\x00\x00\x05"}, {"", "", 1<<32 - 1, "\x00\xff\xff\xff\xff"}, {"", "", math.MaxInt, "\x00\xff\xff\xff\xff"}, {"\x00", "\x00", 0x01020304, "\x00\x00\x00\x01\x02\x03\x04"},
	} {
		if got := Fixed(c.label, c.context, c.bits); got != c.want {
			t.Errorf("Fixed(%q, %q, %d) = %q", c.label, c.context, c.bits, got)
		}
	}
}
