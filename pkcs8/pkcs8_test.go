package pkcs8

import (
	"crypto/x509/pkix"
	"encoding/asn1"
	"encoding/hex"
	"reflect"
	"slices"
	"strings"
	"testing"

	"claviger/api"
)

func un(s string) string {
	b, err := hex.DecodeString(strings.ReplaceAll(s, " ", ""))
	if err != nil {
		panic(err)
	}
	return string(b)
}

var hmac = []int{1, 2, 840, 113549, 2, 9}

var good = []struct {
	i    Info
	want string
}{
	{Info{Arcs: hmac, Key: "k"}, "30 14 02 01 00 30 0c 06 08 2a864886f70d0209 05 00 04 01 6b"},
	{Info{Arcs: []int{1, 2}, Param: []int{2, 999}, Key: ""}, "30 0e 02 01 00 30 07 06 01 2a 06 02 88 37 04 00"},
	{Info{Arcs: []int{1, 2}, Key: "", Attrs: "\x05\x00"}, "30 10 02 01 00 30 05 06 01 2a 05 00 04 00 a0 02 05 00"},
	{Info{Arcs: []int{1, 2}, Key: "xy", Attrs: un("30 02 05 00 04 01 61 9f 1f 00")}, "30 1a 02 01 00 30 05 06 01 2a 05 00 04 02 78 79 a0 0a 30 02 05 00 04 01 61 9f 1f 00"},
}

// P26.1, P26.2, P26.3
func TestKeys(t *testing.T) {
	for _, c := range good {
		if got, err := Encode(c.i); got != un(c.want) || err != api.OK {
			t.Errorf("Encode(%v) = %x, %d", c.i, got, err)
		}
		if got, err := Decode(un(c.want)); !reflect.DeepEqual(got, c.i) || err != api.OK {
			t.Errorf("Decode(%s) = %v, %d", c.want, got, err)
		}
	}
	// As the library encodes it.
	type pkcs8 struct {
		Version int
		Algo    pkix.AlgorithmIdentifier
		Key     []byte
	}
	std, _ := asn1.Marshal(pkcs8{0, pkix.AlgorithmIdentifier{Algorithm: hmac, Parameters: asn1.NullRawValue}, []byte(strings.Repeat("k", 300))})
	if got, err := Encode(Info{Arcs: hmac, Key: strings.Repeat("k", 300)}); got != string(std) || err != api.OK {
		t.Errorf("%x", got)
	}
}

func deep(n int) string {
	s := ""
	for range n {
		s = "\x30" + string([]byte{byte(len(s))}) + s
	}
	return s
}

// P26.1
func TestEncodeErrors(t *testing.T) {
	arcs := []int{1, 2}
	for _, c := range []struct {
		i    Info
		want api.Errno
	}{
		{Info{}, api.ErrArg}, {Info{Arcs: []int{1}}, api.ErrArg}, {Info{Arcs: []int{3, 1}}, api.ErrArg}, {Info{Arcs: []int{1, 2, -1}}, api.ErrArg}, {Info{Arcs: arcs, Param: []int{1}}, api.ErrArg}, {Info{Arcs: arcs, Param: []int{1, 40}}, api.ErrArg}, {Info{Arcs: slices.Repeat([]int{1}, 21)}, api.ErrArg},
		{Info{Arcs: arcs, Attrs: "x"}, api.ErrArg}, {Info{Arcs: arcs, Attrs: "\x05\x00\x05"}, api.ErrArg}, {Info{Arcs: arcs, Attrs: "\x05\x01x"}, api.ErrArg}, {Info{Arcs: arcs, Attrs: "\x05\x00\x30\x01\x05"}, api.ErrArg}, {Info{Arcs: arcs, Attrs: "\x05\x80"}, api.ErrArg},
		{Info{Arcs: arcs, Attrs: deep(14)}, api.OK}, {Info{Arcs: arcs, Attrs: deep(15)}, api.ErrArg}, {Info{Arcs: arcs, Attrs: deep(17)}, api.ErrArg},
		{Info{Arcs: arcs, Attrs: strings.Repeat("\x05\x00", 993)}, api.OK}, {Info{Arcs: arcs, Attrs: strings.Repeat("\x05\x00", 994)}, api.ErrArg}, {Info{Arcs: arcs, Attrs: strings.Repeat("\x05\x00", 32000)}, api.ErrArg}, {Info{Arcs: arcs, Attrs: strings.Repeat("\x05\x00", 40000)}, api.ErrArg},
		{Info{Arcs: arcs, Key: strings.Repeat("k", 65517)}, api.OK}, {Info{Arcs: arcs, Key: strings.Repeat("k", 65518)}, api.ErrSize}, {Info{Arcs: arcs, Key: strings.Repeat("k", 70000)}, api.ErrSize}, {Info{Arcs: []int{1}, Key: strings.Repeat("k", 70000)}, api.ErrArg},
		{Info{Arcs: arcs, Attrs: "\x04\x82\xff\xf0" + strings.Repeat("k", 65520)}, api.ErrSize},
	} {
		s, err := Encode(c.i)
		if err != c.want || (err == api.OK) == (s == "") {
			t.Errorf("Encode of %d bytes: %d, want %d", len(c.i.Key)+len(c.i.Attrs), err, c.want)
		}
		if i, e := Decode(s); err == api.OK && (e != api.OK || !reflect.DeepEqual(i, c.i)) {
			t.Errorf("Decode of %d bytes: %d", len(s), e)
		}
	}
}

// P26.2
func TestDecodeErrors(t *testing.T) {
	const algo = "30 05 06 01 2a 05 00"
	for _, c := range []struct {
		s    string
		want api.Errno
	}{
		{"", api.ErrEmpty}, {"30", api.ErrForm}, {"30 84 00", api.ErrSize}, {hex.EncodeToString([]byte(deep(17))), api.ErrDepth}, {"05 00", api.ErrForm}, {"30 00", api.ErrForm},
		{"30 0c 02 01 00" + algo + "04 00", api.OK},
		{"31 0c 02 01 00" + algo + "04 00", api.ErrForm}, {"b0 0c 02 01 00" + algo + "04 00", api.ErrForm}, {"30 0c 02 01 01" + algo + "04 00", api.ErrForm}, {"30 0c 82 01 00" + algo + "04 00", api.ErrForm}, {"30 0c 04 01 00" + algo + "04 00", api.ErrForm},
		{"30 0a 02 01 00" + algo, api.ErrForm}, {"30 09" + algo + "04 00", api.ErrForm}, {"30 0c " + algo + "02 01 00" + "04 00", api.ErrForm},
		{"30 0c 02 01 00 31" + algo[2:] + "04 00", api.ErrForm}, {"30 0c 02 01 00 a0" + algo[2:] + "04 00", api.ErrForm}, {"30 0a 02 01 00 30 03 06 01 2a 04 00", api.ErrForm}, {"30 0e 02 01 00 30 07 06 01 2a 05 00 05 00 04 00", api.ErrForm}, {"30 0c 02 01 00 30 05 05 00 06 01 2a 04 00", api.ErrForm}, {"30 0b 02 01 00 30 04 05 00 05 00 04 00", api.ErrForm}, {"30 0c 02 01 00 30 05 86 01 2a 05 00 04 00", api.ErrForm}, {"30 0c 02 01 00 30 05 06 01 2a 85 00 04 00", api.ErrForm}, {"30 0c 02 01 00 30 05 06 01 2a 04 00 04 00", api.ErrForm}, {"30 0c 02 01 00 30 05 06 01 2a 30 00 04 00", api.ErrForm},
		{"30 0c 02 01 00" + algo + "84 00", api.ErrForm}, {"30 0c 02 01 00" + algo + "0c 00", api.ErrForm}, {"30 0e 02 01 00" + algo + "a0 02 04 00", api.ErrForm},
		{"30 0e 02 01 00" + algo + "04 00 a0 00", api.ErrForm}, {"30 0e 02 01 00" + algo + "04 00 80 00", api.ErrForm}, {"30 10 02 01 00" + algo + "04 00 80 02 05 00", api.ErrForm}, {"30 10 02 01 00" + algo + "04 00 a1 02 05 00", api.ErrForm}, {"30 10 02 01 00" + algo + "04 00 31 02 05 00", api.ErrForm}, {"30 10 02 01 00" + algo + "04 00 e0 02 05 00", api.ErrForm},
		{"30 10 02 01 00" + algo + "04 00 a0 02 05 00", api.OK}, {"30 12 02 01 00" + algo + "04 00 a0 02 05 00 05 00", api.ErrForm}, {"30 14 02 01 00" + algo + "04 00 a0 02 05 00 a1 02 05 00", api.ErrForm}, {"30 0c 02 01 00" + algo + "04 00 00", api.ErrForm},
	} {
		i, err := Decode(un(c.s))
		if err != c.want || err != api.OK && !reflect.DeepEqual(i, Info{}) {
			t.Errorf("Decode(%s) = %v, %d, want %d", c.s, i, err, c.want)
		}
		if s, _ := Encode(i); err == api.OK && s != un(c.s) {
			t.Errorf("Encode of Decode of %s", c.s)
		}
	}
}
