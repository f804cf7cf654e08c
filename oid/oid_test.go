package oid

import (
	"encoding/asn1"
	"encoding/hex"
	"math"
	"reflect"
	"slices"
	"strings"
	"testing"

	"claviger/api"
)

func un(s string) string {
	b, err := hex.DecodeString(strings.ReplaceAll(s, " ", ""))
	if err != nil {
		panic(err)
	}
	return string(b)
}

func ones(n int) []int {
	return slices.Repeat([]int{1}, n)
}

var right = []struct {
	arcs    []int
	c, text string
}{
	{[]int{1, 2, 840, 10045, 2, 1}, "2a 86 48 ce 3d 02 01", "1.2.840.10045.2.1"}, {[]int{2, 999}, "88 37", "2.999"}, {[]int{0, 0}, "00", "0.0"}, {[]int{0, 39}, "27", "0.39"}, {[]int{1, 0}, "28", "1.0"}, {[]int{1, 39}, "4f", "1.39"},
	{[]int{2, 0}, "50", "2.0"}, {[]int{2, 47}, "7f", "2.47"}, {[]int{2, 48}, "81 00", "2.48"}, {[]int{2, api.MaxArc - 80}, "87 ff ff ff 7f", "2.2147483567"}, {[]int{1, 3, api.MaxArc}, "2b 87 ff ff ff 7f", "1.3.2147483647"},
	{[]int{1, 3, 0, 127, 128, 0}, "2b 00 7f 81 00 00", "1.3.0.127.128.0"}, {ones(20), "29" + strings.Repeat("01", 18), strings.Repeat("1.", 19) + "1"},
}

// P17.1, P17.2, P17.4
func TestRight(t *testing.T) {
	for _, c := range right {
		if got, ok := Encode(c.arcs); got != un(c.c) || !ok || !Right(c.arcs) {
			t.Errorf("Encode(%v) = %x, %t", c.arcs, got, ok)
		}
		if got, ok := Decode(un(c.c)); !reflect.DeepEqual(got, c.arcs) || !ok {
			t.Errorf("Decode(%s) = %v, %t", c.c, got, ok)
		}
		if got := Text(c.arcs); got != c.text {
			t.Errorf("Text(%v) = %q", c.arcs, got)
		}
		if got, ok := Parse(c.text); !reflect.DeepEqual(got, c.arcs) || !ok {
			t.Errorf("Parse(%s) = %v, %t", c.text, got, ok)
		}
	}
}

// P17.1, P17.2
func TestNotRight(t *testing.T) {
	for _, arcs := range [][]int{nil, {}, {1}, {3, 1}, {-1, 1}, {0, 40}, {1, 40}, {0, -1}, {1, -1}, {2, -1}, {2, api.MaxArc - 79}, {2, math.MaxInt}, {1, 2, -1}, {1, 2, api.MaxArc + 1}, {1, 2, math.MinInt}, ones(21), ones(1000)} {
		if s, ok := Encode(arcs); s != "" || ok || Right(arcs) || Text(arcs) != "" {
			t.Errorf("%v is right", arcs)
		}
	}
}

// P17.2
func TestDecodeOther(t *testing.T) {
	for _, c := range []string{"", "80", "80 01", "2a 80", "2a 80 01", "2a 86", "86", "88 80 80 80 00", "87 ff ff ff ff", "87 ff ff ff ff 7f", "ff ff ff ff ff ff ff ff ff ff 7f", "2a 88 80 80 80 00", "2a 86 48 80 01", "29" + strings.Repeat("01", 19), strings.Repeat("01", 3000)} {
		if arcs, ok := Decode(un(c)); len(arcs) != 0 || ok {
			t.Errorf("Decode(%s) = %v", c, arcs)
		}
	}
	for a := range 256 {
		for b := range 256 {
			for _, more := range []string{"", "\x00", "\x81\x01", "\x80\x01"} {
				c := string([]byte{byte(a), byte(b)}) + more
				arcs, ok := Decode(c)
				var std asn1.ObjectIdentifier
				_, err := asn1.Unmarshal(append([]byte{6, byte(len(c))}, c...), &std)
				if ok != (err == nil) || ok && !slices.Equal(arcs, []int(std)) {
					t.Fatalf("Decode(%x) = %v, %t", c, arcs, ok)
				}
				if s, _ := Encode(arcs); ok && s != c {
					t.Fatalf("Encode of Decode of %x", c)
				}
			}
		}
	}
}

// P17.2
func TestParseOther(t *testing.T) {
	for _, s := range []string{"", "1", ".", "1.", ".1", "1..2", "1.2.", "1.2..3", "01.2", "1.02", "1.+2", "1.-2", "3.1", "1.40", "1.2.2147483648", "1.2.99999999999999999999", "1.2 ", " 1.2", "1,2", "a.b", "1.2.x", strings.Repeat("1.", 20) + "1", strings.Repeat(".", 5000), strings.Repeat("1.", 5000)} {
		if arcs, ok := Parse(s); len(arcs) != 0 || ok {
			t.Errorf("Parse(%q) = %v", s, arcs)
		}
	}
}

// P17.3
func TestUnder(t *testing.T) {
	for _, c := range []struct {
		a, b []int
		want bool
	}{
		{[]int{1, 2}, []int{1, 2, 3}, true}, {[]int{1, 2}, []int{1, 2, 3, 4}, true}, {[]int{1, 2}, []int{1, 2}, false}, {[]int{1, 2, 3}, []int{1, 2}, false}, {[]int{1, 2}, []int{1, 3, 2}, false}, {[]int{1, 2}, []int{2, 2, 3}, false},
		{nil, []int{5}, true}, {nil, nil, false}, {[]int{-1}, []int{-1, math.MinInt}, true}, {[]int{}, ones(30), true},
	} {
		if Under(c.a, c.b) != c.want {
			t.Errorf("Under(%v, %v)", c.a, c.b)
		}
	}
}

func TestArgumentsAreKept(t *testing.T) {
	arcs := []int{1, 2, 840, 10045}[:3]
	Encode(arcs)
	Text(arcs)
	if !slices.Equal(arcs[:4], []int{1, 2, 840, 10045}) {
		t.Error("an argument was changed")
	}
}
