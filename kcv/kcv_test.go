package kcv

import (
	"encoding/hex"
	"math/rand"
	"slices"
	"strings"
	"testing"

	"claviger/aes"
	"claviger/api"
	"claviger/cmac"
	"claviger/kind"
)

var zero = strings.Repeat("\x00", 16)

func sample(k int) api.Record {
	return api.Record{Kind: k, Key: "\x00" + strings.Repeat("\x01", kind.Size(k)-1), Attrs: []api.Attr{{Tag: 5}}, Head: api.Head{Mode: "B"}}
}

var invalid = map[api.Errno]api.Record{
	api.ErrKind: {}, api.ErrLength: {Kind: 1, Key: "x"}, api.ErrValue: {Kind: 9, Key: zero + zero}, api.ErrAttr: {Kind: 1, Key: zero, Attrs: []api.Attr{{}}},
}

// P45.1
func TestOf(t *testing.T) {
	// The tag of RFC 4493 for 16 zero bytes is not printed; the encryption of zero under zero is (FIPS 197).
	if got, err := Legacy(api.Record{Kind: 1, Key: zero}); hex.EncodeToString([]byte(got)) != "66e94b" || err != api.OK {
		t.Errorf("Legacy = %x, %d", got, err)
	}
	for k := 1; k <= 11; k++ {
		r := sample(k)
		want, _ := cmac.Tag(zero, string([]byte{byte(k)})+r.Key)
		legacy, wantErr := "", api.ErrKind
		if k <= 3 {
			want, _ = cmac.Tag(r.Key, zero)
			block, _ := aes.Encrypt(r.Key, zero)
			legacy, wantErr = block[:3], api.OK
		}
		if got, err := Of(r); got != want[:5] || err != api.OK {
			t.Errorf("Of kind %d = %x, %d", k, got, err)
		}
		if got, err := Legacy(r); got != legacy || err != wantErr {
			t.Errorf("Legacy of kind %d = %x, %d", k, got, err)
		}
		if ok, err := Check(r, want[:5]); !ok || err != api.OK {
			t.Errorf("Check of kind %d: %d", k, err)
		}
		if ok, err := Check(r, legacy); ok != (k <= 3) || err != api.OK {
			t.Errorf("Check of the legacy value of kind %d: %d", k, err)
		}
		block, _ := aes.Encrypt(zero, zero)
		for _, value := range []string{"", want[:4], want[:6], want[:3], "\x00" + want[1:5], want[1:6], block[:3], want[:4] + "\x00"} {
			if ok, err := Check(r, value); ok || err != api.OK {
				t.Errorf("Check of kind %d accepts %x", k, value)
			}
		}
	}
	a, _ := Of(sample(1))
	b, _ := Of(sample(4))
	if a == b {
		t.Error("the kind has no influence")
	}
}

// P45.1
func TestErrors(t *testing.T) {
	for want, r := range invalid {
		if got, err := Of(r); got != "" || err != want {
			t.Errorf("Of(%v) = %x, %d", r, got, err)
		}
		if got, err := Legacy(r); got != "" || err != want {
			t.Errorf("Legacy(%v) = %x, %d", r, got, err)
		}
		if ok, err := Check(r, ""); ok || err != want {
			t.Errorf("Check(%v): %d", r, err)
		}
	}
	if got, err := Legacy(api.Record{Kind: 9, Key: "x"}); got != "" || err != api.ErrLength {
		t.Errorf("Legacy: %d", err)
	}
}

// P45.2, P45.3
func TestSplitAndCombine(t *testing.T) {
	r := rand.New(rand.NewSource(1))
	random := func(n int) string {
		b := make([]byte, n)
		r.Read(b)
		return string(b)
	}
	if l, err := Split("key"); !slices.Equal(l, []string{"key"}) || err != api.OK {
		t.Errorf("Split without parts = %q, %d", l, err)
	}
	if l, err := Split("\x01\x02", "\x03\x03", "\x10\x20"); !slices.Equal(l, []string{"\x03\x03", "\x10\x20", "\x12\x21"}) || err != api.OK {
		t.Errorf("Split = %q, %d", l, err)
	}
	for n := range 9 {
		key := random(1 + 5*n)
		var parts []string
		for range n {
			parts = append(parts, random(len(key)))
		}
		l, err := Split(key, parts...)
		if len(l) != n+1 || !slices.Equal(l[:n], parts) || err != api.OK {
			t.Errorf("Split into %d: %d", n+1, err)
		}
		for range 5 {
			r.Shuffle(len(l), func(i, j int) { l[i], l[j] = l[j], l[i] })
			if got, err := Combine(l...); got != key || err != api.OK {
				t.Errorf("Combine of %d: %d", n+1, err)
			}
		}
	}
	parts := []string{"abc", "def"}
	l, _ := Split("key", parts...)
	l[0] = "x"
	if parts[0] != "abc" {
		t.Error("Split shares its list")
	}
}

// P45.2
func TestPartErrors(t *testing.T) {
	nine := slices.Repeat([]string{"x"}, 9)
	for _, c := range []struct {
		key   string
		parts []string
		want  api.Errno
	}{
		{"", nil, api.ErrEmpty}, {"", nine, api.ErrEmpty}, {"abc", nine, api.ErrFull}, {"x", nine, api.ErrFull}, {"x", nine[:8], api.OK}, {"abc", []string{"ab"}, api.ErrLength}, {"abc", []string{"abc", ""}, api.ErrLength}, {"abc", []string{"abcd"}, api.ErrLength},
	} {
		if l, err := Split(c.key, c.parts...); err != c.want || err != api.OK && len(l) != 0 {
			t.Errorf("Split(%q, %q) = %q, %d", c.key, c.parts, l, err)
		}
	}
	for _, c := range []struct {
		parts []string
		want  api.Errno
	}{
		{nil, api.ErrArg}, {slices.Repeat([]string{""}, 10), api.ErrArg}, {append(nine, "x"), api.ErrArg}, {nine, api.OK}, {[]string{""}, api.ErrEmpty}, {[]string{"", "x"}, api.ErrEmpty}, {[]string{"x", ""}, api.ErrLength}, {[]string{"ab", "ab", "abc"}, api.ErrLength}, {[]string{"ab", "a"}, api.ErrLength},
	} {
		if s, err := Combine(c.parts...); err != c.want || (err == api.OK) == (s == "") {
			t.Errorf("Combine(%q) = %q, %d", c.parts, s, err)
		}
	}
}
