package templ

import (
	"math/rand"
	"slices"
	"strings"
	"testing"

	"claviger/api"
	"claviger/option"
)

func list(n, size int) []api.Attr {
	var l []api.Attr
	for i := range n {
		l = append(l, api.Attr{Tag: i + 1, Value: strings.Repeat("\xab", size)})
	}
	return l
}

// P33.1, P33.3
func TestEncode(t *testing.T) {
	for _, c := range []struct {
		l    []api.Attr
		want string
	}{
		{nil, ""}, {[]api.Attr{{Tag: 5, Value: "a"}}, "00050161"}, {[]api.Attr{{Tag: 1}, {Tag: 258, Value: "ab"}, {Tag: 65535, Value: "\xff"}}, "000100" + "0102026162" + "FFFF01FF"}, {list(1, 255), "0001FF" + strings.Repeat("AB", 255)}, {list(32, 0), "000100000200000300000400000500000600000700000800000900000A00000B00000C00000D00000E00000F00001000001100001200001300001400001500001600001700001800001900001A00001B00001C00001D00001E00001F00002000"},
	} {
		if got, err := Encode(c.l); got != c.want || err != api.OK {
			t.Errorf("Encode(%v) = %q, %d", c.l, got, err)
		}
		if got, err := Decode(c.want); !slices.Equal(got, c.l) || err != api.OK {
			t.Errorf("Decode(%q) = %v, %d", c.want, got, err)
		}
	}
	for _, l := range [][]api.Attr{list(33, 0), {{Tag: 0}}, {{Tag: 65536}}, {{Tag: 5}, {Tag: 5}}, list(1, 256)} {
		if got, err := Encode(l); got != "" || err != api.ErrAttr {
			t.Errorf("Encode(%v): %d", l, err)
		}
		if got, err := Options(l); len(got) != 0 || err != api.ErrAttr {
			t.Errorf("Options(%v): %d", l, err)
		}
	}
}

// P33.1
func TestDecodeOther(t *testing.T) {
	for _, c := range []struct {
		s    string
		want api.Errno
	}{
		{"0", api.ErrForm}, {"0005", api.ErrForm}, {"00050", api.ErrForm}, {"000501", api.ErrForm}, {"0005016", api.ErrForm}, {"00050161 ", api.ErrForm}, {"0005016100", api.ErrForm}, {"0005016g", api.ErrForm}, {"0005ff", api.ErrForm}, {"00050261", api.ErrForm}, {"000501610007", api.ErrForm}, {"ab", api.ErrForm}, {"0005FF" + strings.Repeat("00", 254), api.ErrForm},
		{"000000", api.ErrAttr}, {"000500000500", api.ErrAttr}, {"000700000500", api.ErrAttr}, {"0000000005", api.ErrForm}, {strings.Repeat("000100", 40), api.ErrAttr}, {strings.Repeat("000100", 40) + "00", api.ErrForm}, {strings.Repeat("FFFF00", 33), api.ErrAttr},
	} {
		if l, err := Decode(c.s); len(l) != 0 || err != c.want {
			t.Errorf("Decode(%.40q) = %v, %d, want %d", c.s, l, err, c.want)
		}
	}
}

// P33.2
func TestOptions(t *testing.T) {
	if l, err := Options(nil); len(l) != 0 || err != api.OK {
		t.Errorf("Options of nothing = %v, %d", l, err)
	}
	for _, l := range [][]api.Attr{list(1, 0), list(3, 20), list(17, 255), list(32, 137)} {
		want, _ := Encode(l)
		got, err := Options(l)
		if !slices.Equal(got, []option.Option{{ID: "10", Data: want}}) || err != api.OK {
			t.Errorf("Options of %d attributes: %d", len(l), err)
		}
		if back, err := From(got); !slices.Equal(back, l) || err != api.OK {
			t.Errorf("From of %d attributes: %d", len(l), err)
		}
	}
	exact := list(17, 255)
	exact = append(exact, api.Attr{Tag: 100, Value: strings.Repeat("x", 111)})
	if s, _ := Encode(exact); len(s) != 9000 {
		t.Fatalf("%d characters", len(s))
	}
	if got, err := Options(exact); len(got) != 1 || err != api.OK {
		t.Errorf("Options of 9000 characters: %d", err)
	}
	exact[17].Value += "x"
	for _, l := range [][]api.Attr{exact, list(18, 255), list(32, 255)} {
		if got, err := Options(l); len(got) != 0 || err != api.ErrSize {
			t.Errorf("Options of %d attributes: %d", len(l), err)
		}
	}
}

// P33.2
func TestFromOther(t *testing.T) {
	for _, c := range []struct {
		l    []option.Option
		want api.Errno
	}{
		{nil, api.OK}, {[]option.Option{}, api.OK}, {[]option.Option{{ID: "10", Data: ""}}, api.ErrForm}, {[]option.Option{{ID: "11", Data: "00050161"}}, api.ErrForm}, {[]option.Option{{ID: "", Data: "00050161"}}, api.ErrForm}, {[]option.Option{{ID: "10", Data: "00050161"}, {ID: "11", Data: ""}}, api.ErrForm}, {[]option.Option{{ID: "10", Data: "00050161"}, {ID: "10", Data: "00050161"}}, api.ErrForm},
		{[]option.Option{{ID: "10", Data: "0"}}, api.ErrForm}, {[]option.Option{{ID: "10", Data: "000000"}}, api.ErrAttr}, {[]option.Option{{ID: "PB", Data: "00"}}, api.ErrForm}, {make([]option.Option, 3), api.ErrForm},
	} {
		if l, err := From(c.l); len(l) != 0 || err != c.want {
			t.Errorf("From(%v) = %v, %d, want %d", c.l, l, err, c.want)
		}
	}
}

// P33.3
func TestChangedCharacters(t *testing.T) {
	r := rand.New(rand.NewSource(1))
	s, _ := Encode([]api.Attr{{Tag: 1, Value: "ab"}, {Tag: 300}, {Tag: 301, Value: "c"}})
	good := 0
	for range 20000 {
		b := []byte(s)
		for range 1 + r.Intn(4) {
			b[r.Intn(len(b))] = "0123456789ABCDEFa"[r.Intn(17)]
		}
		l, err := Decode(string(b))
		if again, _ := Encode(l); err == api.OK {
			good++
			if again != string(b) {
				t.Fatalf("Encode of Decode of %q", b)
			}
		}
	}
	if good == 0 {
		t.Error("nothing was decoded")
	}
}
