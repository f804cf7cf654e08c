package blob

import (
	"math/rand"
	"reflect"
	"strings"
	"testing"

	"claviger/api"
	"claviger/canon"
	"claviger/kind"
	"claviger/padwrap"
	"claviger/record"
)

func sample(k int) api.Record {
	return api.Record{Kind: k, Key: "\x00" + strings.Repeat("\x01", kind.Size(k)-1), Attrs: []api.Attr{{Tag: 5, Value: "x"}, {Tag: 7}}}
}

// P29.1, P29.2, P29.3
func TestBlobs(t *testing.T) {
	r := rand.New(rand.NewSource(1))
	for k := 1; k <= 11; k++ {
		for _, n := range []int{16, 24, 32} {
			kek := make([]byte, n)
			r.Read(kek)
			s, _ := canon.Encode(sample(k))
			want, _ := padwrap.Wrap(string(kek), s)
			b, err := Export(string(kek), sample(k))
			if b != want || err != api.OK || Size(sample(k)) != len(b) {
				t.Errorf("Export of kind %d: %d", k, err)
			}
			if got, err := Import(string(kek), b); !record.Same(got, sample(k)) || err != api.OK {
				t.Errorf("Import of kind %d: %d", k, err)
			}
			other := append([]byte{}, kek...)
			other[k] ^= 1
			if got, err := Import(string(other), b); !reflect.DeepEqual(got, api.Record{}) || err != api.ErrSum {
				t.Errorf("Import with another key: %d", err)
			}
			changed := []byte(b)
			changed[k*3] ^= 1
			if got, err := Import(string(kek), string(changed)); !reflect.DeepEqual(got, api.Record{}) || err != api.ErrSum {
				t.Errorf("Import of another blob: %d", err)
			}
		}
	}
	if plain := (api.Record{Kind: 1, Key: strings.Repeat("k", 16)}); Size(plain) != 48 {
		t.Errorf("Size = %d", Size(plain))
	}
}

// P29.1
func TestExportErrors(t *testing.T) {
	kek := strings.Repeat("k", 16)
	headed := sample(1)
	headed.Head.Usage = "K0"
	for _, c := range []struct {
		kek  string
		r    api.Record
		want api.Errno
	}{{"", api.Record{}, api.ErrKey}, {kek + "k", sample(1), api.ErrKey}, {kek, api.Record{}, api.ErrKind}, {kek, api.Record{Kind: 1}, api.ErrLength}, {kek, api.Record{Kind: 8, Key: strings.Repeat("\x00", 28)}, api.ErrValue}, {kek, api.Record{Kind: 1, Key: kek, Attrs: []api.Attr{{}}}, api.ErrAttr}, {kek, headed, api.ErrHead}} {
		if b, err := Export(c.kek, c.r); b != "" || err != c.want {
			t.Errorf("Export(%v): %d, want %d", c.r, err, c.want)
		}
		if c.want != api.ErrKey && Size(c.r) != 0 {
			t.Errorf("Size(%v)", c.r)
		}
	}
}

// P29.2
func TestImportErrors(t *testing.T) {
	kek := strings.Repeat("k", 16)
	wrapped := func(s string) string {
		b, _ := padwrap.Wrap(kek, s)
		return b
	}
	for _, c := range []struct {
		kek, b string
		want   api.Errno
	}{
		{"", "", api.ErrKey}, {"short", wrapped("x"), api.ErrKey}, {kek, "", api.ErrEmpty}, {kek, "x", api.ErrSize}, {kek, "nine byte", api.ErrSize}, {kek, strings.Repeat("x", 8), api.ErrSize}, {kek, strings.Repeat("x", 65552), api.ErrSize}, {kek, strings.Repeat("x", 16), api.ErrSum}, {kek, strings.Repeat("x", 48), api.ErrSum},
		{kek, wrapped("x"), api.ErrForm}, {kek, wrapped("\x05\x00"), api.ErrForm}, {kek, wrapped("\x30\x83"), api.ErrSize}, {kek, wrapped("\x30\x0c\x02\x01\x00\x30\x05\x06\x01\x2a\x05\x00\x04\x00"), api.ErrKind},
	} {
		if r, err := Import(c.kek, c.b); !reflect.DeepEqual(r, api.Record{}) || err != c.want {
			t.Errorf("Import of %d bytes: %d, want %d", len(c.b), err, c.want)
		}
	}
}
