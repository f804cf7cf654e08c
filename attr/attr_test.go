package attr

import (
	"encoding/hex"
	"math"
	"math/rand"
	"reflect"
	"slices"
	"strings"
	"testing"

	"claviger/api"
	"claviger/setof"
	"claviger/tlv"
)

func un(s string) string {
	b, err := hex.DecodeString(strings.ReplaceAll(s, " ", ""))
	if err != nil {
		panic(err)
	}
	return string(b)
}

func list(n int) []api.Attr {
	var l []api.Attr
	for i := range n {
		l = append(l, api.Attr{Tag: 3 * (i + 1), Value: strings.Repeat("v", i%5)})
	}
	return l
}

var bad = [][]api.Attr{
	list(33), {{Tag: 0}}, {{Tag: -1}}, {{Tag: 65536}}, {{Tag: math.MaxInt}}, {{Tag: 5}, {Tag: 5}}, {{Tag: 7}, {Tag: 5}}, {{Tag: 5, Value: strings.Repeat("x", 256)}}, {{Tag: 1}, {Tag: 2}, {Tag: math.MinInt}},
}

// P24.1
func TestCheck(t *testing.T) {
	for _, l := range [][]api.Attr{nil, {}, list(32), {{Tag: 1}, {Tag: 65535, Value: strings.Repeat("x", 255)}}} {
		if err := Check(l); err != api.OK {
			t.Errorf("Check(%v) = %d", l, err)
		}
	}
	for _, l := range bad {
		if err := Check(l); err != api.ErrAttr {
			t.Errorf("Check(%v) = %d", l, err)
		}
	}
}

// P24.1
func TestGet(t *testing.T) {
	l := []api.Attr{{Tag: 9, Value: "a"}, {Tag: 5, Value: ""}, {Tag: 9, Value: "b"}, {Tag: -3, Value: "c"}}
	for tag, want := range map[int]string{9: "a", 5: "", -3: "c"} {
		if got, ok := Get(l, tag); got != want || !ok {
			t.Errorf("Get(%d) = %q, %t", tag, got, ok)
		}
	}
	for _, tag := range []int{0, 4, 10, math.MinInt} {
		if got, ok := Get(l, tag); got != "" || ok {
			t.Errorf("Get(%d) = %q, %t", tag, got, ok)
		}
	}
	if got, ok := Get(nil, 5); got != "" || ok {
		t.Error("Get of nothing")
	}
}

// P24.2, P24.5
func TestSet(t *testing.T) {
	for _, c := range []struct {
		l    []api.Attr
		tag  int
		want []api.Attr
	}{
		{[]api.Attr{{Tag: 7, Value: "x"}}, 5, []api.Attr{{Tag: 5, Value: "v"}, {Tag: 7, Value: "x"}}}, {[]api.Attr{{Tag: 7, Value: "x"}}, 7, []api.Attr{{Tag: 7, Value: "v"}}}, {[]api.Attr{{Tag: 7, Value: "x"}}, 9, []api.Attr{{Tag: 7, Value: "x"}, {Tag: 9, Value: "v"}}},
		{nil, 1, []api.Attr{{Tag: 1, Value: "v"}}}, {[]api.Attr{{Tag: 1}, {Tag: 5}, {Tag: 9}}, 4, []api.Attr{{Tag: 1}, {Tag: 4, Value: "v"}, {Tag: 5}, {Tag: 9}}}, {[]api.Attr{{Tag: 1}, {Tag: 5}, {Tag: 9}}, 5, []api.Attr{{Tag: 1}, {Tag: 5, Value: "v"}, {Tag: 9}}},
	} {
		before := slices.Clone(c.l)
		got, err := Set(c.l, c.tag, "v")
		if !reflect.DeepEqual(got, c.want) || err != api.OK || !slices.Equal(before, c.l) {
			t.Errorf("Set(%v, %d) = %v, %d", c.l, c.tag, got, err)
		}
		if v, ok := Get(got, c.tag); v != "v" || !ok {
			t.Errorf("Get after Set")
		}
	}
	for _, l := range bad {
		if got, err := Set(l, 100, ""); len(got) != 0 || err != api.ErrAttr {
			t.Errorf("Set in %v: %d", l, err)
		}
	}
	for _, c := range []struct {
		l     []api.Attr
		tag   int
		value string
	}{{nil, 0, ""}, {nil, -1, ""}, {list(3), 65536, ""}, {list(3), 0, ""}, {nil, 5, strings.Repeat("x", 256)}, {list(3), 3, strings.Repeat("x", 256)}, {list(32), 1, ""}, {list(32), 1000, ""}} {
		if got, err := Set(c.l, c.tag, c.value); len(got) != 0 || err != api.ErrAttr {
			t.Errorf("Set(%v, %d): %d", c.l, c.tag, err)
		}
	}
	// A list that the new attribute would repair is rejected all the same.
	for _, l := range [][]api.Attr{{{Tag: 5}, {Tag: 5}}, {{Tag: 5, Value: strings.Repeat("x", 256)}}, {{Tag: 5}, {Tag: 5}, {Tag: 9}}} {
		if got, err := Set(l, 5, "new"); len(got) != 0 || err != api.ErrAttr {
			t.Errorf("Set in %v: %d", l, err)
		}
	}
	if got, err := Set(list(32), 3, "new"); len(got) != 32 || got[0].Value != "new" || err != api.OK {
		t.Error("Set of one of 32")
	}
	spare := append(make([]api.Attr, 0, 10), api.Attr{Tag: 5, Value: "x"}, api.Attr{Tag: 7, Value: "y"})[:1]
	got, _ := Set(spare, 6, "z")
	got[0].Value = "changed"
	if spare[0].Value != "x" || spare[:2][1] != (api.Attr{Tag: 7, Value: "y"}) {
		t.Error("Set writes to its argument")
	}
}

// P24.2
func TestDrop(t *testing.T) {
	l := []api.Attr{{Tag: 1, Value: "a"}, {Tag: 5, Value: "b"}, {Tag: 9, Value: "c"}}
	for i, a := range l {
		got, err := Drop(l, a.Tag)
		if want := slices.Delete(slices.Clone(l), i, i+1); !reflect.DeepEqual(got, want) || err != api.OK {
			t.Errorf("Drop(%d) = %v, %d", a.Tag, got, err)
		}
		if v, ok := Get(got, a.Tag); v != "" || ok {
			t.Error("Get after Drop")
		}
	}
	if l[1].Value != "b" || l[2].Value != "c" {
		t.Error("Drop changes its argument")
	}
	if got, err := Drop([]api.Attr{{Tag: 5}}, 5); len(got) != 0 || err != api.OK {
		t.Error("Drop of the only one")
	}
	for _, tag := range []int{0, 2, 10, -1} {
		if got, err := Drop(l, tag); len(got) != 0 || err != api.ErrNone {
			t.Errorf("Drop(%d): %d", tag, err)
		}
	}
	for _, l := range bad {
		if got, err := Drop(l, 5); len(got) != 0 || err != api.ErrAttr {
			t.Errorf("Drop from %v: %d", l, err)
		}
	}
}

// P24.3
func TestEncode(t *testing.T) {
	for _, c := range []struct {
		a    api.Attr
		want string
	}{
		{api.Attr{Tag: 5, Value: "ab"}, "30 12 06 0a 2b 06 01 04 01 86 8d 1f 07 05 31 04 04 02 61 62"},
		{api.Attr{Tag: 65535}, "30 12 06 0c 2b 06 01 04 01 86 8d 1f 07 83 ff 7f 31 02 04 00"},
	} {
		if got, err := Encode(c.a); got != un(c.want) || err != api.OK {
			t.Errorf("Encode(%v) = %x, %d", c.a, got, err)
		}
		if got, err := Decode(un(c.want)); got != c.a || err != api.OK {
			t.Errorf("Decode(%s) = %v, %d", c.want, got, err)
		}
	}
	for _, a := range []api.Attr{{}, {Tag: -1}, {Tag: 65536}, {Tag: 1, Value: strings.Repeat("x", 256)}} {
		if got, err := Encode(a); got != "" || err != api.ErrAttr {
			t.Errorf("Encode(%v): %d", a, err)
		}
	}
	for n := range 256 {
		a := api.Attr{Tag: 1 + n*256, Value: strings.Repeat("x", n)}
		s, err := Encode(a)
		if got, e := Decode(s); got != a || err != api.OK || e != api.OK {
			t.Errorf("Decode of Encode of %d", a.Tag)
		}
	}
}

// P24.3
func TestDecodeOther(t *testing.T) {
	for _, s := range []string{
		"", "30", "05 00", "30 00", "30 12 06 0a 2b 06 01 04 01 86 8d 1f 07 05 31 04 04 02 61",
		"30 12 06 0a 2b 06 01 04 01 86 8d 1f 07 05 31 04 04 02 61 62 00",          // a byte too many
		"30 11 06 09 2b 06 01 04 01 86 8d 1f 07 31 04 04 02 61 62",                // no tag
		"30 13 06 0b 2b 06 01 04 01 86 8d 1f 07 05 05 31 04 04 02 61 62",          // an arc too many
		"30 12 06 0a 2b 06 01 04 01 86 8d 1f 08 05 31 04 04 02 61 62",             // other arcs
		"30 12 06 0a 2b 06 01 04 01 86 8d 1f 07 00 31 04 04 02 61 62",             // the tag 0
		"30 14 06 0c 2b 06 01 04 01 86 8d 1f 07 84 80 00 31 04 04 02 61 62",       // the tag 65536
		"30 12 06 0a 2b 06 01 04 01 86 8d 1f 07 05 30 04 04 02 61 62",             // a Sequence
		"31 12 06 0a 2b 06 01 04 01 86 8d 1f 07 05 31 04 04 02 61 62",             // a Set
		"b0 12 06 0a 2b 06 01 04 01 86 8d 1f 07 05 31 04 04 02 61 62",             // another class
		"30 12 86 0a 2b 06 01 04 01 86 8d 1f 07 05 31 04 04 02 61 62",             // another class
		"30 12 06 0a 2b 06 01 04 01 86 8d 1f 07 05 31 04 0c 02 61 62",             // a Utf
		"30 10 06 0a 2b 06 01 04 01 86 8d 1f 07 05 31 02 05 00",                   // a Null
		"30 12 06 0a 2b 06 01 04 01 86 8d 1f 07 05 31 00 04 02 61 62",             // beside the Set
		"30 0e 06 0a 2b 06 01 04 01 86 8d 1f 07 05 31 00",                         // none
		"30 16 06 0a 2b 06 01 04 01 86 8d 1f 07 05 31 08 04 02 61 62 04 02 61 62", // two
		"30 12 31 04 04 02 61 62 06 0a 2b 06 01 04 01 86 8d 1f 07 05",             // another order
		"30 81 12 06 0a 2b 06 01 04 01 86 8d 1f 07 05 31 04 04 02 61 62",          // a longer head
		"30 13 06 0b 2b 06 01 04 01 86 8d 1f 07 80 05 31 04 04 02 61 62",          // a longer arc
		"30 12 06 0a 2b 06 01 04 01 86 8d 1f 07 05 31 04 24 02 04 00",             // constructed
		"30 12 06 0a 2b 06 01 04 01 86 8d 1f 07 05 31 04 04 02 61 62" + "30 00",   // two elements
		"30 14 06 0a 2b 06 01 04 01 86 8d 1f 07 05 31 04 04 02 61 62 05 00",       // three parts
		"30 12 06 0a 2b 06 01 04 01 86 8d 1f 07 05 11 04 04 02 61 62",             // a primitive Set
	} {
		if a, err := Decode(un(s)); a != (api.Attr{}) || err != api.ErrForm {
			t.Errorf("Decode(%s) = %v, %d", s, a, err)
		}
	}
	long := el("\x31", el("\x04", strings.Repeat("x", 256)))
	if a, err := Decode(el("\x30", un("06 0a 2b 06 01 04 01 86 8d 1f 07 05")+long)); a != (api.Attr{}) || err != api.ErrForm {
		t.Errorf("a value of 256 bytes: %d", err)
	}
}

func el(tag, s string) string {
	if len(s) > 255 {
		return tag + "\x82" + string([]byte{byte(len(s) >> 8), byte(len(s))}) + s
	}
	return tag + "\x81" + string([]byte{byte(len(s))}) + s
}

// P24.4, P24.5
func TestPack(t *testing.T) {
	r := rand.New(rand.NewSource(1))
	for i := range 300 {
		tags := r.Perm(65535)[:r.Intn(33)]
		slices.Sort(tags)
		var l []api.Attr
		var pieces []string
		for _, tag := range tags {
			a := api.Attr{Tag: tag + 1, Value: strings.Repeat("y", r.Intn(256)*(i%3)/2)}
			l = append(l, a)
			piece, _ := Encode(a)
			pieces = append(pieces, piece)
		}
		s, err := Pack(l)
		if s != strings.Join(setof.Sort(pieces), "") || err != api.OK {
			t.Fatalf("Pack of %d: %d", len(l), err)
		}
		got, err := Unpack(s)
		if !slices.Equal(got, l) || err != api.OK {
			t.Fatalf("Unpack of %d: %d", len(l), err)
		}
	}
	if s, err := Pack(nil); s != "" || err != api.OK {
		t.Error("Pack of nothing")
	}
	if l, err := Unpack(""); len(l) != 0 || err != api.OK {
		t.Error("Unpack of nothing")
	}
	for _, l := range bad {
		if s, err := Pack(l); s != "" || err != api.ErrAttr {
			t.Errorf("Pack(%v): %d", l, err)
		}
	}
	// The order of the encodings is not that of the tags.
	l := []api.Attr{{Tag: 5, Value: "long"}, {Tag: 9, Value: "x"}}
	s, _ := Pack(l)
	pieces, _ := tlv.Pieces(s)
	if a, _ := Decode(pieces[0]); a.Tag != 9 {
		t.Error("the order of Pack")
	}
	if got, err := Unpack(s); !slices.Equal(got, l) || err != api.OK {
		t.Error("the order of Unpack")
	}
}

// P24.4
func TestUnpackOther(t *testing.T) {
	enc := func(tag int, value string) string {
		s, err := Encode(api.Attr{Tag: tag, Value: value})
		if err != api.OK {
			t.Fatal(err)
		}
		return s
	}
	var many []string
	for tag := range 33 {
		many = append(many, enc(tag+1, ""))
	}
	for _, c := range []struct {
		s    string
		want api.Errno
	}{
		{"x", api.ErrForm}, {"\x05\x00", api.ErrForm}, {enc(5, "a") + "\x00", api.ErrForm}, {enc(5, "a") + "\x05\x00", api.ErrForm}, {"\x05\x00" + enc(5, "a"), api.ErrForm}, {enc(7, "a") + enc(5, "a"), api.ErrForm}, {enc(5, "a") + enc(5, "a"), api.ErrForm},
		{enc(5, "a") + enc(5, "b"), api.ErrAttr}, {enc(5, "b") + enc(5, "a"), api.ErrForm}, {enc(5, "") + enc(5, "a"), api.ErrAttr}, {enc(5, "a") + enc(5, "b") + "\x30", api.ErrForm}, {enc(5, "a") + enc(5, "b") + "\x31\x00", api.ErrForm},
		{strings.Join(many, ""), api.ErrAttr}, {strings.Join(many[:32], ""), api.OK}, {strings.Join(many, "") + "x", api.ErrForm}, {strings.Repeat("\x05\x00", 40000), api.ErrForm},
		{enc(6, "x") + enc(5, "aa") + enc(7, "aa"), api.OK}, {enc(7, "aa") + enc(5, "x"), api.ErrForm}, {enc(5, "aa") + enc(7, "aa"), api.OK},
	} {
		l, err := Unpack(c.s)
		if err != c.want || (err != api.OK) != (len(l) == 0) {
			t.Errorf("Unpack(%.80x) = %v, %d, want %d", c.s, l, err, c.want)
		}
		if s, _ := Pack(l); err == api.OK && s != c.s {
			t.Errorf("Pack of Unpack of %x", c.s)
		}
	}
}
