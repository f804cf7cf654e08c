package wrap

import (
	"encoding/hex"
	"math"
	"math/rand"
	"strings"
	"testing"

	"claviger/aes"
	"claviger/api"
)

func un(s string) string {
	b, err := hex.DecodeString(s)
	if err != nil {
		panic(err)
	}
	return string(b)
}

func random(r *rand.Rand, n int) string {
	b := make([]byte, n)
	r.Read(b)
	return string(b)
}

const keks = "000102030405060708090a0b0c0d0e0f101112131415161718191a1b1c1d1e1f"
const data = "00112233445566778899aabbccddeeff000102030405060708090a0b0c0d0e0f"

// P13.3: the examples of RFC 3394.
func TestStandard(t *testing.T) {
	for _, c := range []struct {
		kek, s int
		want   string
	}{
		{16, 16, "1fa68b0a8112b447aef34bd8fb5a7b829d3e862371d2cfe5"},
		{24, 16, "96778b25ae6ca435f92b5b97c050aed2468ab8a17ad84e5d"},
		{32, 16, "64e8c3f9ce0f5ba263e9777905818a2a93c8191e7d6e8ae7"},
		{24, 24, "031d33264e15d33268f24ec260743edce1c6c7ddee725a936ba814915c6762d2"},
		{32, 24, "a8f9bc1612c68b3ff6e6f4fbe30e71e4769c8b80a32cb8958cd5d17d6b254da1"},
		{32, 32, "28c9f404c4b810f4cbccb35cfb87f8263f5786e2d80ed326cbc7f0e71a99f43bfb988b9b7a02dd21"},
	} {
		kek, s := un(keks)[:c.kek], un(data)[:c.s]
		if got, err := Wrap(kek, s); got != un(c.want) || err != api.OK {
			t.Errorf("Wrap of %d bytes under %d = %x, %d", c.s, c.kek, got, err)
		}
		if got, err := Unwrap(kek, un(c.want)); got != s || err != api.OK {
			t.Errorf("Unwrap of %d bytes under %d = %x, %d", c.s, c.kek, got, err)
		}
	}
}

// raw is Raw, as the chapter describes it.
func raw(kek, a, s string) string {
	var r []string
	for ; s != ""; s = s[8:] {
		r = append(r, s[:8])
	}
	for t, n := 1, 6*len(r); t <= n; t++ {
		b, _ := aes.Encrypt(kek, a+r[0])
		x := []byte(b[:8])
		for i := range 8 {
			x[i] ^= byte(t >> (8 * (7 - i)))
		}
		a, r = string(x), append(r[1:], b[8:])
	}
	return a + strings.Join(r, "")
}

// P13.1, P13.2
func TestRaw(t *testing.T) {
	r := rand.New(rand.NewSource(1))
	for i := range 40 {
		kek, iv, s := random(r, 16+8*(i%3)), random(r, 8), random(r, 16+8*i)
		want := raw(kek, iv, s)
		if got, err := Raw(kek, iv, s); got != want || err != api.OK {
			t.Fatalf("Raw of %d bytes", len(s))
		}
		if a, got, err := Unraw(kek, want); a != iv || got != s || err != api.OK {
			t.Fatalf("Unraw of %d bytes", len(want))
		}
		c := random(r, 24+8*i)
		a, p, _ := Unraw(kek, c)
		if got, _ := Raw(kek, a, p); got != c {
			t.Fatalf("Raw of Unraw of %d bytes", len(c))
		}
	}
	kek, iv, s := random(r, 16), random(r, 8), random(r, 65536)
	c, err := Raw(kek, iv, s)
	if len(c) != 65544 || err != api.OK {
		t.Fatalf("Raw of the longest text: %d", err)
	}
	if a, got, err := Unraw(kek, c); a != iv || got != s || err != api.OK {
		t.Errorf("Unraw of the longest text: %d", err)
	}
}

// P13.1, P13.2, P13.3
func TestErrors(t *testing.T) {
	kek, iv := strings.Repeat("k", 16), strings.Repeat("i", 8)
	for _, n := range []int{0, 15, 17, 33} {
		bad := strings.Repeat("k", n)
		if s, err := Raw(bad, "", ""); s != "" || err != api.ErrKey {
			t.Errorf("Raw: %d", err)
		}
		if a, s, err := Unraw(bad, ""); a != "" || s != "" || err != api.ErrKey {
			t.Errorf("Unraw: %d", err)
		}
		if s, err := Wrap(bad, ""); s != "" || err != api.ErrKey {
			t.Errorf("Wrap: %d", err)
		}
		if s, err := Unwrap(bad, ""); s != "" || err != api.ErrKey {
			t.Errorf("Unwrap: %d", err)
		}
	}
	for _, n := range []int{0, 1, 7, 9, 16} {
		if s, err := Raw(kek, strings.Repeat("i", n), ""); s != "" || err != api.ErrArg {
			t.Errorf("Raw with an iv of %d bytes: %d", n, err)
		}
	}
	for _, n := range []int{0, 1, 8, 15, 17, 20, 25, 65535, 65537, 65544, 65552} {
		s := strings.Repeat("s", n)
		if got, err := Raw(kek, iv, s); got != "" || err != api.ErrSize {
			t.Errorf("Raw of %d bytes: %d", n, err)
		}
		if got, err := Wrap(kek, s); got != "" || err != api.ErrSize {
			t.Errorf("Wrap of %d bytes: %d", n, err)
		}
	}
	for _, n := range []int{0, 1, 8, 16, 23, 25, 31, 65543, 65545, 65552} {
		c := strings.Repeat("c", n)
		if a, s, err := Unraw(kek, c); a != "" || s != "" || err != api.ErrSize {
			t.Errorf("Unraw of %d bytes: %d", n, err)
		}
		if s, err := Unwrap(kek, c); s != "" || err != api.ErrSize {
			t.Errorf("Unwrap of %d bytes: %d", n, err)
		}
	}
}

// P13.2
func TestSteps(t *testing.T) {
	for n, want := range map[int]int{math.MinInt: 0, -8: 0, 0: 0, 8: 0, 15: 0, 16: 12, 17: 0, 24: 18, 32: 24, 65536: 49152, 65537: 0, 65544: 0, math.MaxInt: 0, math.MaxInt - 7: 0} {
		if Steps(n) != want {
			t.Errorf("Steps(%d) = %d", n, Steps(n))
		}
	}
}

// P13.3, P13.4
func TestUnwrap(t *testing.T) {
	if Value() != strings.Repeat("\xa6", 8) {
		t.Error("Value")
	}
	r := rand.New(rand.NewSource(2))
	for i := range 20 {
		kek, s := random(r, 16+8*(i%3)), random(r, 16+8*(i%5))
		c, _ := Wrap(kek, s)
		if want, _ := Raw(kek, Value(), s); c != want {
			t.Errorf("Wrap of %d bytes", len(s))
		}
		if got, err := Unwrap(kek, c); got != s || err != api.OK {
			t.Errorf("Unwrap of %d bytes", len(s))
		}
		other := []byte(c)
		other[i%len(other)] ^= 1
		if got, err := Unwrap(kek, string(other)); got != "" || err != api.ErrSum {
			t.Errorf("Unwrap of a changed text: %d", err)
		}
		for k := range 8 {
			iv := []byte(Value())
			iv[k] ^= 1 << (i % 8)
			c, _ := Raw(kek, string(iv), s)
			if got, err := Unwrap(kek, c); got != "" || err != api.ErrSum {
				t.Errorf("Unwrap of another value: %d", err)
			}
		}
	}
}
