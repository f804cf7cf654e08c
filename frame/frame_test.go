package frame

import (
	"math"
	"math/rand"
	"reflect"
	"strings"
	"testing"

	"claviger/api"
	"claviger/digits"
	"claviger/span"
)

var plain = api.Head{Usage: "K0", Mode: "B", Version: "00", Export: "E"}

var attrs = []api.Attr{{Tag: 5, Value: "a"}, {Tag: 700, Value: ""}}

func list(n, size int) []api.Attr {
	var l []api.Attr
	for i := range n {
		l = append(l, api.Attr{Tag: i + 1, Value: strings.Repeat("\xab", size)})
	}
	return l
}

var tag = "sixteen byte tag"

// P34.1
func TestTop(t *testing.T) {
	for _, c := range []struct {
		letter string
		l      []api.Attr
		n      int
		want   string
	}{
		{"A", nil, 48, "D0144K0AB00E0000"}, {"T", nil, 32, "D0112K0TB00E0000"}, {"A", nil, 16, "D0080K0AB00E0000"}, {"A", nil, 4096, "D8240K0AB00E0000"},
		{"A", attrs[:1], 48, "D0160K0AB00E0200" + "100C00050161PB04"}, {"A", attrs, 48, "D0176K0AB00E0200" + "1012" + "0005016102BC00" + "PB0E" + strings.Repeat("0", 10)}, {"A", []api.Attr{{Tag: 1, Value: "abc"}}, 48, "D0160K0AB00E0100" + "1010000103616263"},
	} {
		if got, err := Top(c.letter, plain, c.l, c.n); got != c.want || err != api.OK {
			t.Errorf("Top(%s, %v, %d) = %q, %d", c.letter, c.l, c.n, got, err)
		}
	}
	bad := []api.Attr{{Tag: 0}}
	for _, c := range []struct {
		letter string
		h      api.Head
		l      []api.Attr
		n      int
		want   api.Errno
	}{
		{"", plain, nil, 48, api.ErrArg}, {"X", api.Head{}, bad, 48, api.ErrArg}, {"AT", plain, nil, 48, api.ErrArg}, {"A", plain, nil, 0, api.ErrArg}, {"A", plain, nil, -16, api.ErrArg}, {"A", plain, nil, 8, api.ErrArg}, {"A", plain, nil, 17, api.ErrArg}, {"A", api.Head{}, bad, 4112, api.ErrArg}, {"A", plain, nil, math.MaxInt, api.ErrArg}, {"A", plain, nil, math.MinInt, api.ErrArg},
		{"A", api.Head{}, bad, 48, api.ErrHead}, {"H", plain, bad, 48, api.ErrHead}, {"A", plain, bad, 48, api.ErrAttr}, {"A", plain, list(33, 0), 48, api.ErrAttr}, {"A", plain, list(32, 255), 48, api.ErrSize},
		{"A", plain, list(17, 255), 48, api.OK}, {"A", plain, list(17, 255), 512, api.OK}, {"A", plain, list(17, 255), 4096, api.ErrSize}, {"A", plain, list(3, 255), 4096, api.OK}, {"A", plain, list(4, 255), 4096, api.ErrSize},
	} {
		got, err := Top(c.letter, c.h, c.l, c.n)
		if err != c.want || (err == api.OK) == (got == "") {
			t.Errorf("Top(%s, %v, %d attributes, %d) = %q, %d, want %d", c.letter, c.h, len(c.l), c.n, got, err, c.want)
		}
	}
	// The greatest block has 9999 characters or a few fewer.
	for n := 16; n <= 4096; n += 16 {
		for size := range 256 {
			top, err := Top("A", plain, append(list(3, 255), api.Attr{Tag: 100, Value: strings.Repeat("x", size)}), n)
			if err == api.OK && len(top)+2*n+32 > api.MaxText {
				t.Fatalf("a block of %d characters", len(top)+2*n+32)
			}
			if n < 3000 {
				break
			}
		}
	}
}

// P34.1
func TestJoin(t *testing.T) {
	if Join("top", "\x01\xab", "\xff") != "top01ABFF" || Join("", "", "") != "" {
		t.Error("Join")
	}
}

// P34.2, P34.3
func TestCut(t *testing.T) {
	for _, l := range [][]api.Attr{nil, attrs, attrs[:1], list(1, 3), list(17, 255), list(32, 0)} {
		for _, n := range []int{16, 48, 80, 320} {
			cipher := strings.Repeat("\x9c", n)
			top, err := Top("A", plain, l, n)
			if err != api.OK {
				t.Fatal(err)
			}
			b := Join(top, cipher, tag)
			f, err := Cut(b)
			if want := (Frame{"A", plain, l, top, cipher, tag}); !reflect.DeepEqual(f, want) || err != api.OK {
				t.Errorf("Cut = %v, %d", f, err)
			}
			if again, _ := Top(f.Letter, f.Head, f.Attrs, len(f.Cipher)); again != f.Top || Join(f.Top, f.Cipher, f.Tag) != b {
				t.Errorf("Top of Cut")
			}
			parts := Parts(b)
			if len(parts) != 4 || span.Cut(b, parts[0])+span.Cut(b, parts[1]) != top || parts[0] != span.Of(0, 16) || span.Cut(b, parts[2]) != digits.Hex(cipher) || span.Cut(b, parts[3]) != digits.Hex(tag) || span.To(parts[3]) != len(b) || span.From(parts[1]) != 16 {
				t.Errorf("Parts = %v", parts)
			}
		}
	}
	if got := Parts("D0144K0AB00E0000" + strings.Repeat("00", 64)); !reflect.DeepEqual(got, []complex128{16i, 16 + 16i, 16 + 112i, 112 + 144i}) {
		t.Errorf("Parts = %v", got)
	}
}

// sized returns a block with the length of its characters in its header.
func sized(blocks, rest string) string {
	n := 16 + len(rest)
	return "D" + digits.Dec(n, 4) + "K0AB00E" + blocks + "00" + rest
}

// P34.2
func TestCutErrors(t *testing.T) {
	hex := func(n int) string { return strings.Repeat("5A", n) }
	for _, c := range []struct {
		b    string
		want api.Errno
	}{
		{"", api.ErrEmpty}, {strings.Repeat("D", 10000), api.ErrSize}, {strings.Repeat("D", 9999), api.ErrForm}, {"D", api.ErrForm}, {"D0080K0HB00E0000" + hex(32), api.ErrHead}, {"D0081K0HB00E0000" + hex(32), api.ErrHead},
		{"D0081K0AB00E0000" + hex(32), api.ErrForm}, {"D0080K0AB00E0000" + hex(32) + "0", api.ErrForm}, {"D0080K0AB00E0000" + hex(31), api.ErrForm},
		{sized("00", hex(32)), api.OK}, {sized("00", hex(48)), api.OK}, {sized("00", ""), api.ErrForm}, {sized("00", hex(16)), api.ErrForm}, {sized("00", hex(31)), api.ErrForm}, {sized("00", hex(33)), api.ErrForm}, {sized("00", hex(40)), api.ErrForm}, {sized("00", hex(32)+"5"), api.ErrForm}, {sized("00", hex(31)+"5a"), api.ErrForm}, {sized("00", hex(31)+"5G"), api.ErrForm}, {sized("00", "  "+hex(31)), api.ErrForm},
		{sized("01", hex(32)), api.ErrForm}, {sized("01", "1010000103616263"+hex(32)), api.OK}, {sized("02", "100C00050161PB04"+hex(32)), api.OK}, {sized("00", "100C00050161PB04"+hex(32)), api.ErrForm}, {sized("01", "100C00050161PB04"+hex(32)), api.ErrForm}, {sized("02", "100C00050161"+"PB10"+strings.Repeat("0", 12)+hex(32)), api.ErrForm}, {sized("02", "100C00050161PB05"+hex(32)), api.ErrForm},
		{sized("02", "110C00050161PB04"+hex(32)), api.ErrForm}, {sized("03", "1006001104PB0A"+"0000000"+hex(32)), api.ErrForm}, {sized("02", "1004PB0C00000000"+hex(32)), api.ErrForm}, {sized("02", "100C0005016GPB04"+hex(32)), api.ErrForm}, {sized("02", "100A000000PB0600"+hex(32)), api.ErrAttr}, {sized("02", "100A000000PB0600"+hex(1)), api.ErrAttr}, {sized("01", "1010000100000100"+hex(32)), api.ErrAttr}, {sized("01", "1010000100000100"), api.ErrAttr}, {sized("01", "1010000103616263"), api.ErrForm},
		{sized("00", hex(4016)), api.OK}, {sized("99", hex(32)), api.ErrForm},
	} {
		f, err := Cut(c.b)
		if err != c.want || err != api.OK && !reflect.DeepEqual(f, Frame{}) {
			t.Errorf("Cut(%.60q) = %d, want %d", c.b, err, c.want)
		}
		if (len(Parts(c.b)) != 4) != (err != api.OK) {
			t.Errorf("Parts(%.60q)", c.b)
		}
	}
	// A payload may be longer here than one that Top accepts.
	if f, err := Cut(sized("00", hex(4112+16))); len(f.Cipher) != 4112 || err != api.OK {
		t.Errorf("Cut of 4112 bytes: %d", err)
	}
}

// P34.3
func TestChangedCharacters(t *testing.T) {
	r := rand.New(rand.NewSource(1))
	top, _ := Top("A", plain, attrs, 16)
	b := Join(top, tag, tag)
	good := 0
	for range 30000 {
		x := []byte(b)
		for range 1 + r.Intn(2) {
			x[r.Intn(len(top)+4)] = "0123456789ABCDEFKNSMDPTHX"[r.Intn(25)]
		}
		f, err := Cut(string(x))
		if err != api.OK {
			continue
		}
		good++
		if again, e := Top(f.Letter, f.Head, f.Attrs, len(f.Cipher)); again != f.Top || e != api.OK || Join(f.Top, f.Cipher, f.Tag) != string(x) {
			t.Fatalf("Top of Cut of %q", x)
		}
	}
	if good < 100 {
		t.Errorf("%d were cut", good)
	}
}
