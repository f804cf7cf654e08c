package head

import (
	"encoding/hex"
	"math"
	"strings"
	"testing"

	"claviger/api"
)

func un(s string) string {
	b, err := hex.DecodeString(strings.ReplaceAll(s, " ", ""))
	if err != nil {
		panic(err)
	}
	return string(b)
}

var heads = []struct {
	h    Head
	want string
}{
	{Head{0, 16, true, 200}, "30 81 c8"}, {Head{2, 31, false, 0}, "9f 1f 00"}, {Head{0, 2, false, 1}, "02 01"}, {Head{0, 0, false, 0}, "00 00"},
	{Head{3, 30, true, 127}, "fe 7f"}, {Head{1, 30, false, 128}, "5e 81 80"}, {Head{0, 31, false, 255}, "1f 1f 81 ff"}, {Head{0, 127, false, 256}, "1f 7f 82 01 00"},
	{Head{2, 128, true, 65535}, "bf 81 00 82 ff ff"}, {Head{2, 16383, true, 5}, "bf ff 7f 05"}, {Head{2, 16384, true, 5}, "bf 81 80 00 05"}, {Head{3, 2097151, false, 300}, "df ff ff 7f 82 01 2c"},
}

// P15.1
func TestEncode(t *testing.T) {
	for _, c := range heads {
		if got, err := Encode(c.h); got != un(c.want) || err != api.OK || Size(c.h) != len(got) {
			t.Errorf("Encode(%v) = %x, %d", c.h, got, err)
		}
	}
	for _, h := range []Head{{-1, 0, false, 0}, {4, 0, false, 0}, {0, -1, false, 0}, {0, 2097152, false, 0}, {0, 0, false, -1}, {0, 0, false, 65536}, {math.MinInt, math.MaxInt, true, math.MinInt}, {0, math.MaxInt, true, math.MaxInt}} {
		if got, err := Encode(h); got != "" || err != api.ErrArg || Size(h) != 0 {
			t.Errorf("Encode(%v) = %x, %d", h, got, err)
		}
	}
}

// P15.2, P15.3
func TestDecode(t *testing.T) {
	for _, c := range heads {
		for _, rest := range []string{"", "\x00", "\xff\xff\xff", "rest"} {
			if h, n, err := Decode(un(c.want) + rest); h != c.h || n != len(un(c.want)) || err != api.OK {
				t.Errorf("Decode(%s) = %v, %d, %d", c.want, h, n, err)
			}
		}
		for n := range len(un(c.want)) {
			if h, n, err := Decode(un(c.want)[:n]); h != (Head{}) || n != 0 || err != api.ErrForm {
				t.Errorf("Decode of %d bytes of %s: %d", n, c.want, err)
			}
		}
	}
	for _, c := range []struct {
		s    string
		want api.Errno
	}{
		{"", api.ErrForm}, {"30", api.ErrForm}, {"1f", api.ErrForm}, {"1f 1e", api.ErrForm}, {"1f 1e 00", api.ErrForm}, {"1f 00 00", api.ErrForm}, {"1f 80 1f 00", api.ErrForm}, {"1f 80 81 00 00", api.ErrForm},
		{"1f 81 80 80 00 00", api.ErrForm}, {"1f ff ff ff", api.ErrForm}, {"1f ff ff ff 7f 00", api.ErrForm}, {"1f 81", api.ErrForm},
		{"30 80", api.ErrForm}, {"30 80 00 00", api.ErrForm}, {"30 81", api.ErrForm}, {"30 81 7f", api.ErrForm}, {"30 81 00", api.ErrForm}, {"30 82", api.ErrForm}, {"30 82 01", api.ErrForm}, {"30 82 00 ff", api.ErrForm}, {"30 82 00 80", api.ErrForm},
		{"30 83", api.ErrSize}, {"30 83 00 00 01", api.ErrSize}, {"30 84", api.ErrSize}, {"30 ff", api.ErrSize}, {"30 ff ff", api.ErrSize}, {"1f 1f 83", api.ErrSize},
		{"1f 1e 83", api.ErrForm}, {"1f 80 1f 83", api.ErrForm}, {"1f 81 80 80 83", api.ErrForm},
	} {
		if h, n, err := Decode(un(c.s)); h != (Head{}) || n != 0 || err != c.want {
			t.Errorf("Decode(%s) = %v, %d, %d", c.s, h, n, err)
		}
	}
}

// P15.3
func TestAllBeginnings(t *testing.T) {
	for a := range 256 {
		for b := range 256 {
			for _, more := range []string{"", "\x00", "\x7f", "\x80", "\x81\x80", "\x82\x01\x00", "\xff\xff\x7f\x01", "\x81\x00\x05"} {
				s := string([]byte{byte(a), byte(b)}) + more
				h, n, err := Decode(s)
				if err == api.OK {
					if got, err := Encode(h); got != s[:n] || err != api.OK {
						t.Fatalf("%x is read as %v", s, h)
					}
				} else if h != (Head{}) || n != 0 {
					t.Fatalf("%x is read with an error", s)
				}
			}
		}
	}
	for tag := 0; tag <= api.MaxTag; tag += 13 {
		h := Head{tag % 4, tag, tag%3 == 0, tag % 65536}
		s, err := Encode(h)
		if got, n, e := Decode(s + "x"); err != api.OK || got != h || n != len(s) || e != api.OK {
			t.Fatalf("%v", h)
		}
	}
}
