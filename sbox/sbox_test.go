package sbox

import (
	"math"
	"math/bits"
	"strings"
	"testing"

	"claviger/field"
)

// P6.1
func TestTurn(t *testing.T) {
	for a := range 256 {
		for n := -20; n < 20; n++ {
			if got := Turn(byte(a), n); got != bits.RotateLeft8(byte(a), n) {
				t.Errorf("Turn(%d, %d) = %d", a, n, got)
			}
		}
	}
	if Turn(1, math.MinInt) != 1 || Turn(1, math.MaxInt) != 128 || Turn(1, -1) != 128 || Turn(0x81, 8) != 0x81 {
		t.Error("Turn by great numbers")
	}
}

// P6.1
func TestSubAndBack(t *testing.T) {
	for a, want := range map[byte]byte{0: 99, 83: 237, 1: 0x7c, 0x10: 0xca, 0xff: 0x16, 0x9a: 0xb8, 0x52: 0x00} {
		if Sub(a) != want || Back(want) != a {
			t.Errorf("Sub(%x) = %x, Back(%x) = %x", a, Sub(a), want, Back(want))
		}
	}
	for a := range 256 {
		b := field.Inv(byte(a))
		want := byte(99)
		for n := range 5 {
			want ^= bits.RotateLeft8(b, n)
		}
		if Sub(byte(a)) != want || Back(want) != byte(a) || Sub(Back(byte(a))) != byte(a) {
			t.Errorf("Sub(%d)", a)
		}
	}
}

// P6.2
func TestStrings(t *testing.T) {
	all := ""
	for a := range 256 {
		all += string([]byte{byte(a)})
	}
	table := Table()
	if len(table) != 256 || Subs(all) != table || Backs(table) != all {
		t.Error("Table")
	}
	for a := range 256 {
		if table[a] != Sub(byte(a)) {
			t.Errorf("Table at %d", a)
		}
	}
	if Subs("") != "" || Backs("") != "" || Subs("\x00\x53\x00") != "\x63\xed\x63" || Backs("\x63\xed\x63") != "\x00\x53\x00" {
		t.Error("Subs and Backs")
	}
	if s := strings.Repeat("key", 5000); Backs(Subs(s)) != s {
		t.Error("a long string")
	}
}

// P6.3
func TestPermutation(t *testing.T) {
	seen := map[byte]bool{}
	for a := range 256 {
		b := Sub(byte(a))
		if b == byte(a) || b == ^byte(a) {
			t.Errorf("Sub(%d) = %d", a, b)
		}
		seen[b] = true
	}
	if len(seen) != 256 {
		t.Error("no permutation")
	}
}
