package seal

import (
	"math"
	"math/rand"
	"strings"
	"testing"

	"claviger/api"
	"claviger/cbc"
	"claviger/cmac"
	"claviger/derive"
)

func random(r *rand.Rand, n int) string {
	b := make([]byte, n)
	r.Read(b)
	return string(b)
}

// P37.1, P37.2, P37.3
func TestSeal(t *testing.T) {
	r := rand.New(rand.NewSource(1))
	for i := range 40 {
		kek, top, payload := random(r, 16+8*(i%3)), random(r, i), random(r, 16+16*(i%5))
		enc, auth, _ := derive.Keys(kek)
		wantTag, _ := cmac.Tag(auth, top+payload)
		want, _ := cbc.Encrypt(enc, wantTag, payload)
		if got, err := Bind(kek, top, payload); got != wantTag || err != api.OK {
			t.Errorf("Bind = %x, %d", got, err)
		}
		cipher, tag, err := Seal(kek, top, payload)
		if cipher != want || tag != wantTag || err != api.OK || len(cipher) != len(payload) || len(tag) != 16 {
			t.Errorf("Seal = %x, %x, %d", cipher, tag, err)
		}
		if other, _ := Bind(kek, top+"x", payload); other == tag {
			t.Error("the tag does not depend on the top")
		}
	}
}

// P37.1, P37.2
func TestErrors(t *testing.T) {
	good := strings.Repeat("k", 16)
	for _, c := range []struct {
		kek, payload string
		want         api.Errno
	}{
		{"", "", api.ErrKey}, {"short", good, api.ErrKey}, {good + "k", "x", api.ErrKey}, {good, "", api.ErrSize}, {good, "x", api.ErrSize}, {good, good + "x", api.ErrSize}, {good, good[1:], api.ErrSize},
	} {
		if got, err := Bind(c.kek, "top", c.payload); got != "" || err != c.want {
			t.Errorf("Bind(%q, %q): %d", c.kek, c.payload, err)
		}
		if cipher, tag, err := Seal(c.kek, "top", c.payload); cipher != "" || tag != "" || err != c.want {
			t.Errorf("Seal(%q, %q): %d", c.kek, c.payload, err)
		}
	}
}

// P37.2
func TestBlocks(t *testing.T) {
	for _, c := range [][3]int{
		{0, 0, 2}, {0, 16, 3}, {16, 48, 4 + 1 + 3}, {17, 48, 5 + 1 + 3}, {1, 17, 2 + 1 + 1}, {-1, 16, 0}, {16, -1, 0}, {api.MaxBlob + 1, 16, 0}, {16, api.MaxBlob + 1, 0}, {math.MinInt, math.MaxInt, 0}, {math.MaxInt, math.MaxInt, 0},
		{api.MaxBlob, api.MaxBlob, 2*api.MaxBlob/16 + 1 + api.MaxBlob/16},
	} {
		if got := Blocks(c[0], c[1]); got != c[2] {
			t.Errorf("Blocks(%d, %d) = %d", c[0], c[1], got)
		}
	}
}
