package aes

import (
	stdaes "crypto/aes"
	"encoding/hex"
	"math/rand"
	"strings"
	"testing"

	"claviger/api"
	"claviger/round"
	"claviger/sched"
)

func un(s string) string {
	b, err := hex.DecodeString(s)
	if err != nil {
		panic(err)
	}
	return string(b)
}

func random(r *rand.Rand, n int) string {
	b := make([]byte, n)
	r.Read(b)
	return string(b)
}

// P9.1, P9.2: the examples of FIPS 197.
func TestStandard(t *testing.T) {
	for _, c := range [][3]string{
		{"000102030405060708090a0b0c0d0e0f", "00112233445566778899aabbccddeeff", "69c4e0d86a7b0430d8cdb78070b4c55a"},
		{"000102030405060708090a0b0c0d0e0f1011121314151617", "00112233445566778899aabbccddeeff", "dda97ca4864cdfe06eaf70a0ec0d7191"},
		{"000102030405060708090a0b0c0d0e0f101112131415161718191a1b1c1d1e1f", "00112233445566778899aabbccddeeff", "8ea2b7ca516745bfeafc49904b496089"},
		{"2b7e151628aed2a6abf7158809cf4f3c", "3243f6a8885a308d313198a2e0370734", "3925841d02dc09fbdc118597196a0b32"},
	} {
		key, plain, want := un(c[0]), un(c[1]), un(c[2])
		cipher, err := New(key)
		if err != api.OK || cipher.Size() != len(key) {
			t.Fatalf("New: %d", err)
		}
		if got, err := cipher.Encrypt(plain); got != want || err != api.OK {
			t.Errorf("c.Encrypt = %x, %d", got, err)
		}
		if got, err := cipher.Decrypt(want); got != plain || err != api.OK {
			t.Errorf("c.Decrypt = %x, %d", got, err)
		}
		if got, err := Encrypt(key, plain); got != want || err != api.OK {
			t.Errorf("Encrypt = %x, %d", got, err)
		}
		if got, err := Decrypt(key, want); got != plain || err != api.OK {
			t.Errorf("Decrypt = %x, %d", got, err)
		}
	}
}

// P9.1: as the rounds of layer 7, and as the library.
func TestRounds(t *testing.T) {
	r := rand.New(rand.NewSource(1))
	for i := range 300 {
		key, plain := random(r, 16+8*(i%3)), random(r, 16)
		keys, _ := sched.Keys(key)
		want := round.Key(plain, keys[0])
		for i, k := range keys[1:] {
			want = round.Do(want, k, i == len(keys)-2)
		}
		std, _ := stdaes.NewCipher([]byte(key))
		out := make([]byte, 16)
		std.Encrypt(out, []byte(plain))
		if got, err := Encrypt(key, plain); got != want || got != string(out) || err != api.OK {
			t.Fatalf("Encrypt(%x, %x) = %x", key, plain, got)
		}
		std.Decrypt(out, []byte(plain))
		if got, err := Decrypt(key, plain); got != string(out) || err != api.OK {
			t.Fatalf("Decrypt(%x, %x) = %x", key, plain, got)
		}
	}
}

// P9.1, P9.2
func TestErrors(t *testing.T) {
	good := strings.Repeat("k", 16)
	for _, n := range []int{0, 1, 15, 17, 20, 31, 33, 64} {
		bad := strings.Repeat("k", n)
		if c, err := New(bad); c != nil || err != api.ErrKey {
			t.Errorf("New with %d bytes", n)
		}
		if s, err := Encrypt(bad, good); s != "" || err != api.ErrKey {
			t.Errorf("Encrypt with %d bytes", n)
		}
		if s, err := Decrypt(bad, "x"); s != "" || err != api.ErrKey {
			t.Errorf("Decrypt with %d bytes", n)
		}
		if s, err := Many(bad, "x", n%2 == 0); s != "" || err != api.ErrKey {
			t.Errorf("Many with %d bytes", n)
		}
	}
	c, _ := New(good)
	for _, n := range []int{0, 1, 15, 17, 32} {
		bad := strings.Repeat("b", n)
		for _, f := range []func(string) (string, api.Errno){c.Encrypt, c.Decrypt, func(s string) (string, api.Errno) { return Encrypt(good, s) }, func(s string) (string, api.Errno) { return Decrypt(good, s) }} {
			if s, err := f(bad); s != "" || err != api.ErrSize {
				t.Errorf("a block of %d bytes: %d", n, err)
			}
		}
	}
}

// P9.2
func TestMany(t *testing.T) {
	r := rand.New(rand.NewSource(2))
	for n := range 6 {
		key, s := random(r, 16+8*(n%3)), random(r, 16*n)
		encrypted, decrypted := "", ""
		for i := range n {
			e, _ := Encrypt(key, s[16*i:16*i+16])
			d, _ := Decrypt(key, s[16*i:16*i+16])
			encrypted, decrypted = encrypted+e, decrypted+d
		}
		if got, err := Many(key, s, false); got != encrypted || err != api.OK {
			t.Errorf("Many of %d blocks", n)
		}
		if got, err := Many(key, s, true); got != decrypted || err != api.OK {
			t.Errorf("Many of %d blocks, back", n)
		}
		for _, more := range []int{1, 8, 15} {
			if got, err := Many(key, s+strings.Repeat("x", more), n%2 == 0); got != "" || err != api.ErrSize {
				t.Errorf("Many of %d bytes", 16*n+more)
			}
		}
	}
}

// P9.3
func TestNoCipher(t *testing.T) {
	for _, c := range []*Cipher{nil, {}, new(Cipher)} {
		for _, s := range []string{"", "x", strings.Repeat("b", 16)} {
			if got, err := c.Encrypt(s); got != "" || err != api.ErrArg {
				t.Errorf("Encrypt: %d", err)
			}
			if got, err := c.Decrypt(s); got != "" || err != api.ErrArg {
				t.Errorf("Decrypt: %d", err)
			}
		}
		if c.Size() != 0 {
			t.Error("Size")
		}
	}
}

// P9.4
func TestInverses(t *testing.T) {
	r := rand.New(rand.NewSource(3))
	seen := map[string]bool{}
	c, _ := New(random(r, 24))
	for range 2000 {
		s := random(r, 16)
		e, _ := c.Encrypt(s)
		d, _ := c.Decrypt(e)
		f, _ := c.Decrypt(s)
		g, _ := c.Encrypt(f)
		if d != s || g != s || seen[e] {
			t.Fatalf("%x", s)
		}
		seen[e] = true
	}
}
