package option

import (
	"math"
	"math/rand"
	"slices"
	"strings"
	"testing"

	"claviger/api"
)

func data(n int) string {
	return strings.Repeat("x", n)
}

var good = []struct {
	o    Option
	want string
}{
	{Option{"10", "AB"}, "1006AB"}, {Option{"A9", ""}, "A904"}, {Option{"PB", "0"}, "PB050"}, {Option{"ZZ", " ~"}, "ZZ06 ~"}, {Option{"10", data(12)}, "1010" + data(12)}, {Option{"10", data(251)}, "10FF" + data(251)}, {Option{"10", data(252)}, "1000040106" + data(252)}, {Option{"10", data(9000)}, "1000042332" + data(9000)},
}

// P32.1, P32.4
func TestOptions(t *testing.T) {
	for _, c := range good {
		if got, err := Encode(c.o); got != c.want || err != api.OK {
			t.Errorf("Encode(%.20q) = %.20q, %d", c.o, got, err)
		}
		for _, rest := range []string{"", "0", "rest\x00"} {
			if o, n, err := Decode(c.want + rest); o != c.o || n != len(c.want) || err != api.OK {
				t.Errorf("Decode(%.20q) = %.20q, %d, %d", c.want, o, n, err)
			}
		}
		for n := 0; n < len(c.want); n += 1 + n/20 {
			if o, n, err := Decode(c.want[:n]); o != (Option{}) || n != 0 || err != api.ErrForm {
				t.Errorf("Decode(%.20q): %d", c.want[:n], err)
			}
		}
	}
	for _, o := range []Option{{}, {"1", ""}, {"100", ""}, {"a0", ""}, {"1_", ""}, {"1 ", ""}, {":0", ""}, {"[A", ""}, {"@A", ""}, {"/0", ""}, {"10", "\x1f"}, {"10", "\x7f"}, {"10", "ab\xff"}, {"10", "a\nb"}, {"10", data(9001)}, {"10", data(70000)}} {
		if got, err := Encode(o); got != "" || err != api.ErrForm {
			t.Errorf("Encode(%.20q) = %.20q, %d", o, got, err)
		}
	}
}

// P32.1
func TestDecodeOther(t *testing.T) {
	for _, s := range []string{
		"", "1", "10", "100", "1000", "1001", "1002", "1003", "10030", "a004", "1 04", "100g", "10 4", "10ff" + data(251), "10\x004", "1006A", "1006A\x7f", "1006\x1fB", "10AB",
		"100004", "10000401", "1000040006", "100004000A", "1000040105" + data(251), "100002000C" + data(2), "1000050106" + data(252), "100004010" + data(252), "1000040107" + data(252), "1000042333" + data(9001), "100004FFFF" + data(66000), "100004ffff", "1000040106" + data(251), "1000040106" + data(251) + "\n", "00",
	} {
		if o, n, err := Decode(s); o != (Option{}) || n != 0 || err != api.ErrForm {
			t.Errorf("Decode(%.20q) = %.20q, %d, %d", s, o, n, err)
		}
	}
}

// P32.2
func TestPadding(t *testing.T) {
	for n := -40; n < 400; n++ {
		got := Padding(n)
		if n < 0 || n%16 == 0 {
			if got != "" {
				t.Errorf("Padding(%d) = %q", n, got)
			}
			continue
		}
		o, m, err := Decode(got)
		if err != api.OK || m != len(got) || o.ID != "PB" || strings.Trim(o.Data, "0") != "" || (n+len(got))%16 != 0 || len(o.Data) > 15 {
			t.Errorf("Padding(%d) = %q", n, got)
		}
	}
	if Padding(6) != "PB0A000000" || Padding(12) != "PB04" || Padding(13) != "PB13"+strings.Repeat("0", 15) || Padding(math.MinInt) != "" {
		t.Error("Padding")
	}
	if (math.MaxInt%16+len(Padding(math.MaxInt)))%16 != 0 || Padding(math.MaxInt) == "" {
		t.Errorf("Padding(MaxInt) = %q", Padding(math.MaxInt))
	}
}

func many(n, size int) []Option {
	var l []Option
	for i := range n {
		l = append(l, Option{string([]byte{byte('A' + i/10), byte('0' + i%10)}), data(size)})
	}
	return l
}

// P32.2, P32.3, P32.4
func TestPack(t *testing.T) {
	for _, c := range []struct {
		l      []Option
		want   string
		blocks int
	}{
		{nil, "", 0}, {[]Option{{"10", "AB"}}, "1006ABPB0A000000", 2}, {[]Option{{"10", data(12)}}, "1010" + data(12), 1}, {[]Option{{"10", "AB"}, {"A0", "C"}, {"1B", ""}}, "1006ABA005C1B04PB11" + strings.Repeat("0", 13), 4}, {[]Option{{"10", data(8)}}, "100C" + data(8) + "PB04", 2},
	} {
		got, blocks, err := Pack(c.l)
		if got != c.want || blocks != c.blocks || err != api.OK || len(got)%16 != 0 {
			t.Errorf("Pack(%q) = %q, %d, %d", c.l, got, blocks, err)
		}
		for _, rest := range []string{"", "0123456789ABCDEF", "PB04", "x"} {
			if l, n, err := Unpack(c.want+rest, c.blocks); !slices.Equal(l, c.l) || n != len(c.want) || err != api.OK {
				t.Errorf("Unpack(%q, %d) = %q, %d, %d", c.want, c.blocks, l, n, err)
			}
		}
		for blocks := -2; blocks < 100; blocks++ {
			l, n, err := Unpack(c.want, blocks)
			if blocks != c.blocks && blocks != 0 && (len(l) != 0 || n != 0 || err != api.ErrForm) {
				t.Errorf("Unpack(%q, %d) = %q, %d, %d", c.want, blocks, l, n, err)
			}
		}
	}
	for _, l := range [][]Option{{{"10", "\n"}}, {{"1", ""}}, {{"PB", ""}}, {{"10", "A"}, {"PB", "000"}}, {{"10", "A"}, {"10", "B"}}, {{"10", "A"}, {"11", "A"}, {"10", "A"}}, append(many(150, 200), Option{"A0", ""}), append(many(150, 200), Option{"a0", ""}), make([]Option, 100000), slices.Repeat([]Option{{"10", ""}}, 100000)} {
		if s, n, err := Pack(l); s != "" || n != 0 || err != api.ErrForm {
			t.Errorf("Pack of %d options: %d", len(l), err)
		}
	}
}

// P32.2, P32.3
func TestPackSizes(t *testing.T) {
	for _, c := range []struct {
		l    []Option
		want api.Errno
	}{
		{many(98, 12), api.OK}, {many(99, 12), api.ErrSize}, {many(97, 11), api.OK}, {many(97, 0), api.OK}, {many(98, 0), api.ErrSize}, {many(98, 11), api.ErrSize}, {many(96, 0), api.OK}, {many(100, 0), api.ErrSize}, {many(78, 124), api.OK}, {many(77, 124), api.OK},
		{[]Option{{"A0", data(9000)}, {"A1", data(970)}}, api.ErrSize}, {[]Option{{"A0", data(9000)}, {"A1", data(964)}}, api.OK}, {[]Option{{"A0", data(9000)}, {"A1", data(965)}}, api.ErrSize}, {[]Option{{"A0", data(9000)}, {"A1", data(980)}}, api.ErrSize}, {[]Option{{"A0", data(9000)}, {"A1", data(9000)}}, api.ErrSize},
	} {
		s, n, err := Pack(c.l)
		if total := len(s); total%16 != 0 || total > api.MaxText || n > 98 {
			t.Errorf("%d options in %d characters", n, total)
		}
		if err != c.want || err != api.OK && (s != "" || n != 0) {
			t.Errorf("Pack of %d options: %d, want %d", len(c.l), err, c.want)
		}
		if l, m, e := Unpack(s, n); err == api.OK && (!slices.Equal(l, c.l) || m != len(s) || e != api.OK) {
			t.Errorf("Unpack of %d options: %d", n, e)
		}
	}
	// 9984 is the greatest multiple of 16 that a block can have.
	for size := 940; size < 990; size++ {
		l := []Option{{"A0", data(9000)}, {"A1", data(size)}}
		_, _, err := Pack(l)
		total := 9010 + 10 + size
		want := api.OK
		if total+len(Padding(total)) > 9999 {
			want = api.ErrSize
		}
		if err != want {
			t.Errorf("Pack of %d characters: %d", total, err)
		}
	}
}

// P32.3
func TestUnpackOther(t *testing.T) {
	for _, c := range []struct {
		s      string
		blocks int
	}{
		{"", 1}, {"", -1}, {"", math.MinInt}, {"", math.MaxInt}, {"1006AB", 1}, {"1006ABPB0A00000", 2}, {"1006ABPB0A000001", 2}, {"1006ABPB0A00000 ", 2}, {"1006ABPB0A000000", 1}, {"1006ABPB0A000000", 3}, {"1006ABPB1A" + strings.Repeat("0", 22), 2},
		{"PB10" + strings.Repeat("0", 12), 1}, {"PB0A0000001006AB", 2}, {"1010" + data(12) + "PB10" + strings.Repeat("0", 12), 2}, {"1008" + data(4) + "1008" + data(4), 2}, {"1006AB1006ABPB04", 3}, {"1006AB", 1}, {"1010" + strings.Repeat("\x7f", 12), 1}, {"100004000E" + data(4), 1},
		{strings.Repeat("AA04", 4), 4}, {"AA04AB04PB04AC04", 4}, {"1006abpb0a000000", 2},
	} {
		if l, n, err := Unpack(c.s, c.blocks); len(l) != 0 || n != 0 || err != api.ErrForm {
			t.Errorf("Unpack(%.40q, %d) = %q, %d, %d", c.s, c.blocks, l, n, err)
		}
	}
}

// P32.4
func TestChangedCharacters(t *testing.T) {
	r := rand.New(rand.NewSource(1))
	s, blocks, _ := Pack([]Option{{"10", "AB"}, {"A0", "C"}, {"ZZ", data(260)}})
	for range 20000 {
		b := []byte(s)
		for range 1 + r.Intn(3) {
			b[r.Intn(60)] = "0123456789ABCDEFP"[r.Intn(17)]
		}
		l, n, err := Unpack(string(b), blocks)
		if err != api.OK {
			continue
		}
		if again, count, e := Pack(l); again != string(b)[:n] || count != blocks || e != api.OK {
			t.Fatalf("Pack of Unpack of %q", b)
		}
	}
}
