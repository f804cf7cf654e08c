package padwrap

import (
	"encoding/hex"
	"math"
	"math/rand"
	"strings"
	"testing"

	"claviger/aes"
	"claviger/api"
	"claviger/wrap"
)

func un(s string) string {
	b, err := hex.DecodeString(s)
	if err != nil {
		panic(err)
	}
	return string(b)
}

func random(r *rand.Rand, n int) string {
	b := make([]byte, n)
	r.Read(b)
	return string(b)
}

// P14.2, P14.3: the examples of RFC 5649.
func TestStandard(t *testing.T) {
	kek := un("5840df6e29b02af1ab493b705bf16ea1ae8338f4dcc176a8")
	for s, want := range map[string]string{
		"c37b7e6492584340bed12207808941155068f738": "138bdeaa9b8fa7fc61f97742e72248ee5ae6ae5360d1ae6a5f54f373fa543b6a",
		"466f7250617369": "afbeb0f07dfbf5419200f2ccb50bb24f",
	} {
		if got, err := Wrap(kek, un(s)); got != un(want) || err != api.OK {
			t.Errorf("Wrap(%s) = %x, %d", s, got, err)
		}
		if got, err := Unwrap(kek, un(want)); got != un(s) || err != api.OK {
			t.Errorf("Unwrap(%s) = %x, %d", want, got, err)
		}
	}
}

// P14.1
func TestValueAndSize(t *testing.T) {
	for n, want := range map[int]string{1: "a65959a600000001", 258: "a65959a600000102", 65535: "a65959a60000ffff"} {
		if Value(n) != un(want) {
			t.Errorf("Value(%d) = %x", n, Value(n))
		}
	}
	for n, want := range map[int]int{1: 16, 7: 16, 8: 16, 9: 24, 16: 24, 38: 48, 65528: 65536, 65529: 65544, 65535: 65544} {
		if Size(n) != want {
			t.Errorf("Size(%d) = %d", n, Size(n))
		}
	}
	for _, n := range []int{0, -1, 65536, math.MinInt, math.MaxInt} {
		if Value(n) != "" || Size(n) != 0 {
			t.Errorf("%d bytes", n)
		}
	}
}

// P14.1
func TestLength(t *testing.T) {
	for m := 1; m < 40; m++ {
		for n := -16; n < 64; n++ {
			want := n%8 == 0 && m > n-8 && m <= n
			if got, ok := Length(Value(m), n); ok != want || ok && got != m || !ok && got != 0 {
				t.Errorf("Length(Value(%d), %d) = %d, %t", m, n, got, ok)
			}
		}
	}
	if m, ok := Length(Value(65535), 65536); m != 65535 || !ok {
		t.Error("the greatest length")
	}
	for _, v := range []string{"", "a65959a6", "a65959a600", "a65959a600000000", "a65959a700000008", "b65959a600000008", "a65959a60000000800", "a65959a608", "a65959a60000000000000008", "a65959a600010000", "a65959a6ffffffff", "00000008", "a65959a6ffffffffffffffff"} {
		for _, n := range []int{0, 8, 65536, -8, math.MinInt, math.MaxInt - 7} {
			if m, ok := Length(un(v), n); m != 0 || ok {
				t.Errorf("Length(%s, %d) = %d, %t", v, n, m, ok)
			}
		}
	}
	if m, ok := Length(Value(5), math.MinInt); m != 0 || ok {
		t.Error("a negative number of bytes")
	}
}

// P14.2, P14.3, P14.4
func TestWrap(t *testing.T) {
	r := rand.New(rand.NewSource(1))
	for n := 1; n < 80; n++ {
		kek, s := random(r, 16+8*(n%3)), random(r, n)
		padded := s
		for len(padded)%8 != 0 {
			padded += "\x00"
		}
		want, _ := wrap.Raw(kek, Value(n), padded)
		if n <= 8 {
			want, _ = aes.Encrypt(kek, Value(n)+padded)
		}
		got, err := Wrap(kek, s)
		if got != want || err != api.OK || len(got) != Size(n) {
			t.Fatalf("Wrap of %d bytes: %d", n, err)
		}
		if back, err := Unwrap(kek, got); back != s || err != api.OK {
			t.Fatalf("Unwrap of %d bytes: %d", n, err)
		}
		other := []byte(got)
		other[n%len(got)] ^= 4
		if back, err := Unwrap(kek, string(other)); back != "" || err != api.ErrSum {
			t.Errorf("Unwrap of a changed text: %d", err)
		}
	}
	kek, s := random(r, 32), random(r, 65535)
	c, err := Wrap(kek, s)
	if len(c) != 65544 || err != api.OK {
		t.Fatalf("Wrap of the longest text: %d", err)
	}
	if back, err := Unwrap(kek, c); back != s || err != api.OK {
		t.Errorf("Unwrap of the longest text: %d", err)
	}
}

// with wraps a padded text with any value.
func with(kek, value, padded string) string {
	if len(padded) == 8 {
		c, _ := aes.Encrypt(kek, value+padded)
		return c
	}
	c, _ := wrap.Raw(kek, value, padded)
	return c
}

// P14.3
func TestOtherValuesAndPadding(t *testing.T) {
	kek := strings.Repeat("k", 16)
	for _, size := range []int{8, 16, 24, 64} {
		for m := range 80 {
			padded := strings.Repeat("s", min(m, size)) + strings.Repeat("\x00", size-min(m, size))
			got, err := Unwrap(kek, with(kek, un("a65959a6000000")+string([]byte{byte(m)}), padded))
			if m > size-8 && m <= size {
				if got != padded[:m] || err != api.OK {
					t.Errorf("%d of %d bytes: %d", m, size, err)
				}
			} else if got != "" || err != api.ErrSum {
				t.Errorf("%d of %d bytes: %d", m, size, err)
			}
		}
		for i := range 7 {
			padded := []byte(strings.Repeat("s", size-7) + strings.Repeat("\x00", 7))
			padded[size-1-i] = 1
			if got, err := Unwrap(kek, with(kek, Value(size-7), string(padded))); got != "" || err != api.ErrSum {
				t.Errorf("padding with a byte 1: %d", err)
			}
		}
		for i := range 8 {
			value := []byte(Value(size))
			value[i] ^= 16
			if got, err := Unwrap(kek, with(kek, string(value), strings.Repeat("s", size))); got != "" || err != api.ErrSum {
				t.Errorf("another value: %d", err)
			}
		}
		if got, err := Unwrap(kek, with(kek, wrap.Value(), strings.Repeat("s", size))); got != "" || err != api.ErrSum {
			t.Errorf("the value of RFC 3394: %d", err)
		}
	}
}

// P14.2, P14.3
func TestErrors(t *testing.T) {
	kek := strings.Repeat("k", 16)
	for _, n := range []int{0, 15, 17, 33} {
		for _, s := range []string{"", "x", strings.Repeat("s", 16)} {
			if got, err := Wrap(strings.Repeat("k", n), s); got != "" || err != api.ErrKey {
				t.Errorf("Wrap with %d bytes: %d", n, err)
			}
			if got, err := Unwrap(strings.Repeat("k", n), s); got != "" || err != api.ErrKey {
				t.Errorf("Unwrap with %d bytes: %d", n, err)
			}
		}
	}
	for _, n := range []int{0, 65536, 65544, 100000} {
		if got, err := Wrap(kek, strings.Repeat("s", n)); got != "" || err != api.ErrSize {
			t.Errorf("Wrap of %d bytes: %d", n, err)
		}
	}
	for _, n := range []int{0, 1, 8, 9, 15, 17, 20, 23, 25, 65543, 65545, 65552} {
		if got, err := Unwrap(kek, strings.Repeat("s", n)); got != "" || err != api.ErrSize {
			t.Errorf("Unwrap of %d bytes: %d", n, err)
		}
	}
}
