package sched

import (
	"encoding/hex"
	"math"
	"strings"
	"testing"

	"claviger/api"
	"claviger/field"
	"claviger/sbox"
)

func un(s string) string {
	b, err := hex.DecodeString(s)
	if err != nil {
		panic(err)
	}
	return string(b)
}

const (
	key16 = "2b7e151628aed2a6abf7158809cf4f3c"
	key24 = "8e73b0f7da0e6452c810f32b809079e562f8ead2522c6b7b"
	key32 = "603deb1015ca71be2b73aef0857d77811f352c073b6108d72d9810a30914dff4"
)

// P8.1
func TestRoundsAndConstant(t *testing.T) {
	for n := -40; n < 80; n++ {
		if want := map[int]int{16: 10, 24: 12, 32: 14}[n]; Rounds(n) != want {
			t.Errorf("Rounds(%d) = %d", n, Rounds(n))
		}
	}
	if Rounds(math.MinInt) != 0 || Rounds(math.MaxInt) != 0 {
		t.Error("Rounds")
	}
	for i, want := range []byte{0, 1, 2, 4, 8, 16, 32, 64, 128, 0x1b, 0x36} {
		if Constant(i) != want {
			t.Errorf("Constant(%d) = %d", i, Constant(i))
		}
	}
	for i := 1; i < 256; i++ {
		if Constant(i) != field.Pow(2, i-1) {
			t.Errorf("Constant(%d)", i)
		}
	}
	for _, i := range []int{0, -1, 256, math.MinInt, math.MaxInt} {
		if Constant(i) != 0 {
			t.Errorf("Constant(%d)", i)
		}
	}
}

// P8.2: the words that FIPS 197 prints, appendix A.
func TestWords(t *testing.T) {
	for _, c := range []struct {
		key   string
		count int
		words map[int]string
	}{
		{key16, 44, map[int]string{0: "2b7e1516", 3: "09cf4f3c", 4: "a0fafe17", 5: "88542cb1", 8: "f2c295f2", 36: "ac7766f3", 40: "d014f9a8", 43: "b6630ca6"}},
		{key24, 52, map[int]string{5: "522c6b7b", 6: "fe0c91f7", 7: "2402f5a5", 12: "4db7b4bd", 51: "01002202"}},
		{key32, 60, map[int]string{7: "0914dff4", 8: "9ba35411", 12: "a8b09c1a", 16: "d59aecb8", 17: "5bf3c917", 20: "b5a9328a", 59: "706c631e"}},
	} {
		words := Words(un(c.key))
		if len(words) != c.count {
			t.Fatalf("%d words", len(words))
		}
		for i, w := range c.words {
			if words[i] != un(w) {
				t.Errorf("word %d of %s = %x", i, c.key, words[i])
			}
		}
		for i, w := range words {
			if len(w) != 4 {
				t.Errorf("word %d has %d bytes", i, len(w))
			}
		}
	}
	for _, n := range []int{0, 1, 15, 17, 20, 23, 25, 31, 33, 48, 64} {
		if len(Words(strings.Repeat("k", n))) != 0 {
			t.Errorf("words for %d bytes", n)
		}
	}
}

// P8.2: the rule, word by word.
func TestRule(t *testing.T) {
	for _, key := range []string{un(key16), un(key24), un(key32), strings.Repeat("\x00", 32), strings.Repeat("\xff", 24)} {
		n := len(key)
		words := Words(key)
		for i := n / 4; i < len(words); i++ {
			p := []byte(words[i-1])
			if i%(n/4) == 0 {
				p = []byte{sbox.Sub(p[1]) ^ Constant(i/(n/4)), sbox.Sub(p[2]), sbox.Sub(p[3]), sbox.Sub(p[0])}
			} else if n == 32 && i%8 == 4 {
				p = []byte(sbox.Subs(string(p)))
			}
			for j := range 4 {
				if words[i][j] != p[j]^words[i-n/4][j] {
					t.Errorf("%d bytes: word %d", n, i)
				}
			}
		}
	}
}

// P8.3, P8.4
func TestKeys(t *testing.T) {
	for _, key := range []string{un(key16), un(key24), un(key32)} {
		keys, err := Keys(key)
		if err != api.OK || len(keys) != Rounds(len(key))+1 || strings.Join(keys, "") != strings.Join(Words(key), "") || !strings.HasPrefix(strings.Join(keys, ""), key) {
			t.Errorf("Keys of %d bytes", len(key))
		}
		for _, k := range keys {
			if len(k) != 16 {
				t.Errorf("a round key of %d bytes", len(k))
			}
		}
		other := key[:len(key)-1] + "x"
		if strings.Join(Words(other), "") == strings.Join(Words(key), "") {
			t.Error("two keys with the same words")
		}
	}
	for _, n := range []int{0, 8, 15, 17, 40} {
		if keys, err := Keys(strings.Repeat("k", n)); err != api.ErrKey || len(keys) != 0 {
			t.Errorf("Keys of %d bytes", n)
		}
	}
}
