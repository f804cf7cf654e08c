package open

import (
	"math/rand"
	"strings"
	"testing"

	"claviger/api"
	"claviger/cbc"
	"claviger/cmac"
	"claviger/derive"
	"claviger/seal"
)

func random(r *rand.Rand, n int) string {
	b := make([]byte, n)
	r.Read(b)
	return string(b)
}

// P38.1, P38.2, P38.3
func TestOpen(t *testing.T) {
	r := rand.New(rand.NewSource(1))
	for i := range 40 {
		kek, top, payload := random(r, 16+8*(i%3)), random(r, i), random(r, 16+16*(i%5))
		cipher, tag, _ := seal.Seal(kek, top, payload)
		got, err := Open(kek, top, cipher, tag)
		if got != payload || err != api.OK || !Right(kek, top, cipher, tag) {
			t.Fatalf("Open = %x, %d", got, err)
		}
		flip := func(s string) string {
			b := []byte(s)
			b[r.Intn(len(b))] ^= 1 << r.Intn(8)
			return string(b)
		}
		for _, c := range [][4]string{{kek, top, cipher, flip(tag)}, {kek, top, flip(cipher), tag}, {kek, top + "x", cipher, tag}, {flip(kek), top, cipher, tag}, {kek, flip(top + "y"), cipher, tag}, {kek, top, cipher + strings.Repeat("z", 16), tag}} {
			if got, err := Open(c[0], c[1], c[2], c[3]); got != "" || err != api.ErrSum || Right(c[0], c[1], c[2], c[3]) {
				t.Fatalf("Open of something else = %x, %d", got, err)
			}
		}
	}
}

// P38.1: the parts of the standard.
func TestParts(t *testing.T) {
	r := rand.New(rand.NewSource(2))
	for i := range 20 {
		kek, top, cipher := random(r, 16+8*(i%3)), random(r, i), random(r, 32)
		enc, auth, _ := derive.Keys(kek)
		tag := random(r, 16)
		payload, _ := cbc.Decrypt(enc, tag, cipher)
		want, _ := cmac.Check(auth, top+payload, tag)
		if Right(kek, top, cipher, tag) != want {
			t.Errorf("Right is %t", !want)
		}
	}
}

// P38.1
func TestErrors(t *testing.T) {
	kek, tag := strings.Repeat("k", 16), strings.Repeat("t", 16)
	for _, c := range []struct {
		kek, cipher, tag string
		want             api.Errno
	}{
		{"", "", "", api.ErrKey}, {kek + "k", "x", "x", api.ErrKey}, {"short", tag, tag, api.ErrKey}, {kek, "", tag, api.ErrSize}, {kek, "x", tag, api.ErrSize}, {kek, tag + "x", tag, api.ErrSize}, {kek, tag, "", api.ErrSize}, {kek, tag, tag[1:], api.ErrSize}, {kek, tag, tag + "t", api.ErrSize}, {kek, tag, tag, api.ErrSum},
	} {
		if got, err := Open(c.kek, "top", c.cipher, c.tag); got != "" || err != c.want || Right(c.kek, "top", c.cipher, c.tag) {
			t.Errorf("Open(%q, %q, %q) = %x, %d", c.kek, c.cipher, c.tag, got, err)
		}
	}
}
