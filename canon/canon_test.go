package canon

import (
	"encoding/hex"
	"reflect"
	"strings"
	"testing"

	"claviger/api"
	"claviger/attr"
	"claviger/curve"
	"claviger/kind"
	"claviger/pkcs8"
	"claviger/record"
	"claviger/sec1"
)

func sample(k int) api.Record {
	return api.Record{Kind: k, Key: "\x00" + strings.Repeat("\x01", kind.Size(k)-1)}
}

func with(r api.Record, l ...api.Attr) api.Record {
	r.Attrs = l
	return r
}

var attrs = []api.Attr{{Tag: 5, Value: "long value"}, {Tag: 9, Value: "x"}, {Tag: 65535}}

// P28.1, P28.2, P28.3
func TestRecords(t *testing.T) {
	if s, err := Encode(sample(1)); len(s) != 38 || err != api.OK || hex.EncodeToString([]byte(s)) != "3024020100300d060960864801650304010105000410"+"00"+strings.Repeat("01", 15) {
		t.Errorf("AES-128: %x", s)
	}
	for k := 1; k <= 11; k++ {
		for _, l := range [][]api.Attr{nil, attrs} {
			r := with(sample(k), l...)
			info := pkcs8.Info{Arcs: kind.Arcs(k), Key: r.Key}
			if no := kind.Curve(k); no != 0 {
				info.Param = curve.Arcs(no)
				info.Key, _ = sec1.Encode(no, r.Key)
			}
			info.Attrs, _ = attr.Pack(l)
			want, _ := pkcs8.Encode(info)
			got, err := Encode(r)
			if got != want || err != api.OK || Size(r) != len(got) || got == "" {
				t.Errorf("Encode of kind %d = %x, %d", k, got, err)
			}
			if back, err := Decode(got); !record.Same(back, r) || err != api.OK {
				t.Errorf("Decode of kind %d = %v, %d", k, back, err)
			}
		}
	}
}

// P28.1
func TestEncodeErrors(t *testing.T) {
	headed := sample(1)
	headed.Head.Mode = "B"
	wrong := headed
	wrong.Attrs = []api.Attr{{Tag: 0}}
	for _, c := range []struct {
		r    api.Record
		want api.Errno
	}{{api.Record{}, api.ErrKind}, {api.Record{Kind: 1}, api.ErrLength}, {api.Record{Kind: 9, Key: strings.Repeat("\x00", 32)}, api.ErrValue}, {wrong, api.ErrAttr}, {headed, api.ErrHead}, {api.Record{Kind: 1, Head: headed.Head}, api.ErrLength}} {
		if s, err := Encode(c.r); s != "" || err != c.want || Size(c.r) != 0 {
			t.Errorf("Encode(%v) = %x, %d", c.r, s, err)
		}
	}
}

// P28.2
func TestDecodeErrors(t *testing.T) {
	ec := kind.Arcs(9)
	p256, _ := sec1.Encode(2, sample(9).Key)
	p224, _ := sec1.Encode(1, sample(8).Key)
	good, _ := attr.Pack(attrs)
	one, _ := attr.Encode(attrs[0])
	two, _ := attr.Encode(attrs[1])
	other, _ := attr.Encode(api.Attr{Tag: 9, Value: "z"})
	for _, c := range []struct {
		i    pkcs8.Info
		want api.Errno
	}{
		{pkcs8.Info{Arcs: ec, Param: curve.Arcs(2), Key: p256}, api.OK}, {pkcs8.Info{Arcs: ec, Param: curve.Arcs(2), Key: p256, Attrs: good}, api.OK}, {pkcs8.Info{Arcs: kind.Arcs(4), Key: sample(4).Key}, api.OK}, {pkcs8.Info{Arcs: kind.Arcs(4), Key: sample(5).Key}, api.OK},
		{pkcs8.Info{Arcs: kind.Arcs(1), Key: sample(2).Key}, api.ErrKind}, {pkcs8.Info{Arcs: kind.Arcs(1), Key: ""}, api.ErrKind}, {pkcs8.Info{Arcs: []int{1, 2}, Key: sample(1).Key}, api.ErrKind}, {pkcs8.Info{Arcs: ec, Key: sample(9).Key}, api.ErrKind}, {pkcs8.Info{Arcs: ec, Key: p256}, api.ErrKind},
		{pkcs8.Info{Arcs: kind.Arcs(1), Key: sample(1).Key, Attrs: "\x05\x00"}, api.ErrForm}, {pkcs8.Info{Arcs: kind.Arcs(1), Key: sample(1).Key, Attrs: one + two}, api.ErrForm}, {pkcs8.Info{Arcs: kind.Arcs(1), Key: sample(1).Key, Attrs: two + other}, api.ErrAttr}, {pkcs8.Info{Arcs: []int{1, 2}, Key: "", Attrs: two + other}, api.ErrAttr}, {pkcs8.Info{Arcs: ec, Param: []int{1, 2}, Key: "", Attrs: "\x05\x00"}, api.ErrForm},
		{pkcs8.Info{Arcs: ec, Param: curve.Arcs(2), Key: ""}, api.ErrEmpty}, {pkcs8.Info{Arcs: ec, Param: curve.Arcs(2), Key: p256[1:]}, api.ErrForm}, {pkcs8.Info{Arcs: ec, Param: curve.Arcs(2), Key: "\x30\x84"}, api.ErrSize}, {pkcs8.Info{Arcs: ec, Param: curve.Arcs(2), Key: sample(9).Key}, api.ErrForm},
		{pkcs8.Info{Arcs: ec, Param: curve.Arcs(2), Key: strings.Replace(p256, "\x03\x01\x07", "\x03\x01\x06", 1)}, api.ErrKind}, {pkcs8.Info{Arcs: ec, Param: curve.Arcs(2), Key: strings.Replace(p256, sample(9).Key, strings.Repeat("\x00", 32), 1)}, api.ErrValue}, {pkcs8.Info{Arcs: ec, Param: curve.Arcs(2), Key: strings.Replace(p256, sample(9).Key, curve.Order(2), 1)}, api.ErrValue},
		{pkcs8.Info{Arcs: kind.Arcs(3), Param: curve.Arcs(2), Key: p256}, api.ErrKind}, {pkcs8.Info{Arcs: kind.Arcs(3), Param: curve.Arcs(1), Key: p256}, api.ErrKind}, {pkcs8.Info{Arcs: ec, Param: curve.Arcs(1), Key: p256}, api.ErrForm}, {pkcs8.Info{Arcs: ec, Param: curve.Arcs(2), Key: p224}, api.ErrForm}, {pkcs8.Info{Arcs: ec, Param: []int{1, 2}, Key: p224}, api.ErrForm}, {pkcs8.Info{Arcs: ec, Param: append(curve.Arcs(2), 1), Key: p256}, api.ErrForm},
	} {
		s, err := pkcs8.Encode(c.i)
		if err != api.OK {
			t.Fatalf("%v: %d", c.i, err)
		}
		r, err := Decode(s)
		if err != c.want || err != api.OK && !reflect.DeepEqual(r, api.Record{}) {
			t.Errorf("Decode of %v = %v, %d, want %d", c.i, r, err, c.want)
		}
		if again, _ := Encode(r); err == api.OK && (again != s || record.Check(r) != api.OK || !record.Bare(r)) {
			t.Errorf("Encode of Decode of %v", c.i)
		}
	}
	for s, want := range map[string]api.Errno{"": api.ErrEmpty, "\x30": api.ErrForm, "\x05\x00": api.ErrForm, "\x30\x84": api.ErrSize, strings.Repeat("\x00", 65536): api.ErrSize} {
		if r, err := Decode(s); err != want || !reflect.DeepEqual(r, api.Record{}) {
			t.Errorf("Decode(%.20x): %d", s, err)
		}
	}
}

// P28.3: whatever is accepted is encoded as the same bytes.
func TestChangedBytes(t *testing.T) {
	for k := 1; k <= 11; k++ {
		s, _ := Encode(with(sample(k), attrs...))
		for i := range len(s) {
			for _, x := range []byte{1, 2, 16, 32, 128} {
				b := []byte(s)
				b[i] ^= x
				r, err := Decode(string(b))
				if again, e := Encode(r); err == api.OK && (again != string(b) || e != api.OK) {
					t.Fatalf("%x", b)
				}
			}
		}
	}
}
