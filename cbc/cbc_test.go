package cbc

import (
	stdaes "crypto/aes"
	"crypto/cipher"
	"encoding/hex"
	"math/rand"
	"strings"
	"testing"

	"claviger/aes"
	"claviger/api"
	"claviger/octets"
)

func un(s string) string {
	b, err := hex.DecodeString(s)
	if err != nil {
		panic(err)
	}
	return string(b)
}

func random(r *rand.Rand, n int) string {
	b := make([]byte, n)
	r.Read(b)
	return string(b)
}

// P10.1, P10.2: SP 800-38A, F.2.1.
func TestStandard(t *testing.T) {
	key, iv := un("2b7e151628aed2a6abf7158809cf4f3c"), un("000102030405060708090a0b0c0d0e0f")
	plain := un("6bc1bee22e409f96e93d7e117393172aae2d8a571e03ac9c9eb76fac45af8e51")
	want := un("7649abac8119b246cee98e9b12e9197d5086cb9b507219ee95db113a917678b2")
	if got, err := Encrypt(key, iv, plain); got != want || err != api.OK {
		t.Errorf("Encrypt = %x, %d", got, err)
	}
	if got, err := Decrypt(key, iv, want); got != plain || err != api.OK {
		t.Errorf("Decrypt = %x, %d", got, err)
	}
}

// P10.1, P10.2: as the library; each block as the chapter says.
func TestBlocks(t *testing.T) {
	r := rand.New(rand.NewSource(1))
	for i := range 60 {
		key, iv, s := random(r, 16+8*(i%3)), random(r, 16), random(r, 16*(i%7))
		std, _ := stdaes.NewCipher([]byte(key))
		out := make([]byte, len(s))
		cipher.NewCBCEncrypter(std, []byte(iv)).CryptBlocks(out, []byte(s))
		got, err := Encrypt(key, iv, s)
		if got != string(out) || err != api.OK {
			t.Fatalf("Encrypt of %d bytes", len(s))
		}
		if back, err := Decrypt(key, iv, got); back != s || err != api.OK {
			t.Fatalf("Decrypt of %d bytes", len(s))
		}
		cipher.NewCBCDecrypter(std, []byte(iv)).CryptBlocks(out, []byte(s))
		if plain, err := Decrypt(key, iv, s); plain != string(out) || err != api.OK {
			t.Fatalf("Decrypt of %d bytes", len(s))
		}
		previous := iv
		for at := 0; at < len(s); at += 16 {
			want, _ := aes.Encrypt(key, octets.Xor(s[at:at+16], previous))
			if got[at:at+16] != want {
				t.Fatalf("block at %d", at)
			}
			previous = want
		}
	}
}

// P10.1, P10.2
func TestErrors(t *testing.T) {
	good := strings.Repeat("k", 16)
	for _, c := range []struct {
		key, iv, s string
		want       api.Errno
	}{
		{"", "", "x", api.ErrKey}, {good + "k", good, good, api.ErrKey}, {good[1:], "x", "x", api.ErrKey}, {good + good + good, good, "", api.ErrKey},
		{good, "", "x", api.ErrArg}, {good, good[1:], good, api.ErrArg}, {good, good + "x", "x", api.ErrArg},
		{good, good, "x", api.ErrSize}, {good, good, good[1:], api.ErrSize}, {good, good, good + "x", api.ErrSize},
		{good, good, "", api.OK}, {good + good, good, "", api.OK},
	} {
		if got, err := Encrypt(c.key, c.iv, c.s); got != "" || err != c.want {
			t.Errorf("Encrypt(%q, %q, %q) = %q, %d", c.key, c.iv, c.s, got, err)
		}
		if got, err := Decrypt(c.key, c.iv, c.s); got != "" || err != c.want {
			t.Errorf("Decrypt(%q, %q, %q) = %q, %d", c.key, c.iv, c.s, got, err)
		}
	}
}

// P10.2
func TestLast(t *testing.T) {
	for _, c := range [][3]string{{"iv", "", "iv"}, {"iv", "fifteen bytes..", "iv"}, {"iv", "sixteen bytes ok", "sixteen bytes ok"}, {"iv", "more than sixteen bytes", "n sixteen bytes"}, {"", "", ""}} {
		want := c[2]
		if len(c[1]) > 16 {
			want = c[1][len(c[1])-16:]
		}
		if got := Last(c[0], c[1]); got != want {
			t.Errorf("Last(%q, %q) = %q", c[0], c[1], got)
		}
	}
}

// P10.3
func TestConcatenation(t *testing.T) {
	r := rand.New(rand.NewSource(2))
	for i := range 30 {
		key, iv, a, b := random(r, 16+8*(i%3)), random(r, 16), random(r, 16*(i%4)), random(r, 16*(i%3))
		whole, _ := Encrypt(key, iv, a+b)
		first, _ := Encrypt(key, iv, a)
		second, _ := Encrypt(key, Last(iv, first), b)
		if whole != first+second {
			t.Fatalf("%d and %d bytes", len(a), len(b))
		}
	}
}
