package record

import (
	"reflect"
	"slices"
	"strings"
	"testing"

	"claviger/api"
	"claviger/kind"
)

func sample(k int) api.Record {
	return api.Record{Kind: k, Key: "\x00" + strings.Repeat("\x01", kind.Size(k)-1)}
}

func with(r api.Record, h api.Head, l ...api.Attr) api.Record {
	r.Head, r.Attrs = h, l
	return r
}

var head = api.Head{Usage: "K0", Mode: "B", Version: "00", Export: "E"}

var zeros = strings.Repeat("00", 16)

var invalid = []struct {
	r    api.Record
	want api.Errno
}{
	{api.Record{}, api.ErrKind}, {api.Record{Kind: 12, Key: "x", Attrs: []api.Attr{{}}}, api.ErrKind}, {api.Record{Kind: 1, Key: "x", Attrs: []api.Attr{{}}}, api.ErrLength},
	{api.Record{Kind: 9, Key: strings.Repeat("\x00", 32), Attrs: []api.Attr{{}}}, api.ErrValue}, {with(sample(1), head, api.Attr{}), api.ErrAttr}, {with(sample(9), api.Head{}, api.Attr{Tag: 5}, api.Attr{Tag: 5}), api.ErrAttr},
	{with(sample(1), api.Head{}, api.Attr{Tag: 5, Value: strings.Repeat("x", 256)}), api.ErrAttr},
}

// P27.1
func TestCheckAndBare(t *testing.T) {
	for k := 1; k <= 11; k++ {
		for _, h := range []api.Head{{}, head, {Usage: "nonsense"}} {
			if err := Check(with(sample(k), h, api.Attr{Tag: 5, Value: "x"})); err != api.OK {
				t.Errorf("Check of kind %d: %d", k, err)
			}
		}
	}
	for _, c := range invalid {
		if err := Check(c.r); err != c.want {
			t.Errorf("Check(%v) = %d", c.r, err)
		}
		if Text(c.r) != "" {
			t.Errorf("Text(%v)", c.r)
		}
		if r, err := With(c.r, 5, "x"); !reflect.DeepEqual(r, api.Record{}) || err != c.want {
			t.Errorf("With(%v): %d", c.r, err)
		}
		if r, err := Without(c.r, 5); !reflect.DeepEqual(r, api.Record{}) || err != c.want {
			t.Errorf("Without(%v): %d", c.r, err)
		}
	}
	if !Bare(sample(1)) || !Bare(api.Record{}) {
		t.Error("Bare")
	}
	for _, h := range []api.Head{{Usage: "x"}, {Mode: "x"}, {Version: "x"}, {Export: "x"}, head} {
		if Bare(with(sample(1), h)) {
			t.Errorf("Bare with %v", h)
		}
	}
}

// P27.1
func TestSameAndCopy(t *testing.T) {
	r := with(sample(1), head, api.Attr{Tag: 5, Value: "x"}, api.Attr{Tag: 7})
	c := Copy(r)
	if !Same(r, c) || !reflect.DeepEqual(r, c) {
		t.Error("Copy")
	}
	c.Attrs[0].Value = "y"
	if r.Attrs[0].Value != "x" || Same(r, c) {
		t.Error("Copy shares the attributes")
	}
	if !Same(with(sample(1), head), api.Record{Kind: 1, Key: sample(1).Key, Head: head, Attrs: []api.Attr{}}) || !Same(api.Record{}, api.Record{}) {
		t.Error("Same with empty lists")
	}
	if len(Copy(api.Record{}).Attrs) != 0 {
		t.Error("Copy of nothing")
	}
	others := []api.Record{with(r, api.Head{}, r.Attrs...), with(r, head), with(r, head, r.Attrs[0]), with(r, head, r.Attrs[1], r.Attrs[0]), with(r, head, r.Attrs[0], api.Attr{Tag: 8}), {Kind: 2, Key: r.Key, Attrs: r.Attrs, Head: head}, {Kind: 1, Key: "", Attrs: r.Attrs, Head: head}}
	for i, h := range []api.Head{{Usage: "K1", Mode: "B", Version: "00", Export: "E"}, {Usage: "K0", Mode: "E", Version: "00", Export: "E"}, {Usage: "K0", Mode: "B", Version: "01", Export: "E"}, {Usage: "K0", Mode: "B", Version: "00", Export: "N"}} {
		others = append(others, with(r, h, r.Attrs...))
		if Same(others[len(others)-1], r) {
			t.Errorf("Same with another header %d", i)
		}
	}
	for i, o := range others {
		if Same(o, r) || Same(r, o) {
			t.Errorf("Same with another record %d", i)
		}
	}
}

// P27.1
func TestWith(t *testing.T) {
	r := with(sample(9), head, api.Attr{Tag: 5, Value: "x"}, api.Attr{Tag: 7})
	for _, c := range []struct {
		tag  int
		want []api.Attr
	}{{6, []api.Attr{{Tag: 5, Value: "x"}, {Tag: 6, Value: "v"}, {Tag: 7}}}, {5, []api.Attr{{Tag: 5, Value: "v"}, {Tag: 7}}}} {
		if got, err := With(r, c.tag, "v"); !reflect.DeepEqual(got, with(r, head, c.want...)) || err != api.OK {
			t.Errorf("With(%d) = %v, %d", c.tag, got, err)
		}
	}
	if got, err := Without(r, 5); !reflect.DeepEqual(got, with(r, head, api.Attr{Tag: 7})) || err != api.OK {
		t.Errorf("Without = %v, %d", got, err)
	}
	for _, tag := range []int{0, -1, 65536} {
		if got, err := With(r, tag, "v"); !reflect.DeepEqual(got, api.Record{}) || err != api.ErrAttr {
			t.Errorf("With(%d): %d", tag, err)
		}
	}
	if got, err := Without(r, 6); !reflect.DeepEqual(got, api.Record{}) || err != api.ErrNone {
		t.Errorf("Without: %d", err)
	}
	if !slices.Equal(r.Attrs, []api.Attr{{Tag: 5, Value: "x"}, {Tag: 7}}) {
		t.Error("With changes its argument")
	}
}

// P27.2, P27.3
func TestText(t *testing.T) {
	zero := api.Record{Kind: 1, Key: strings.Repeat("\x00", 16)}
	var many []api.Attr
	words := ""
	for i := range 32 {
		many = append(many, api.Attr{Tag: i + 1, Value: "\xab"})
		words += " " + []string{"1", "2", "3", "4", "5", "6", "7", "8", "9", "10", "11", "12", "13", "14", "15", "16", "17", "18", "19", "20", "21", "22", "23", "24", "25", "26", "27", "28", "29", "30", "31", "32"}[i] + "=AB"
	}
	for _, c := range []struct {
		r    api.Record
		want string
	}{
		{zero, "AES-128 " + zeros}, {with(zero, api.Head{}, api.Attr{Tag: 5, Value: "a"}), "AES-128 " + zeros + " 5=61"}, {with(zero, api.Head{}, api.Attr{Tag: 5}, api.Attr{Tag: 65535, Value: "\xab\xcd"}), "AES-128 " + zeros + " 5= 65535=ABCD"},
		{with(zero, head), "AES-128 " + zeros + " @4B30,42,3030,45"}, {with(zero, head, api.Attr{Tag: 7, Value: "x"}), "AES-128 " + zeros + " 7=78 @4B30,42,3030,45"}, {with(zero, api.Head{Export: "\x00"}), "AES-128 " + zeros + " @,,,00"}, {with(zero, api.Head{Mode: "long, @="}), "AES-128 " + zeros + " @,6C6F6E672C20403D,,"},
		{with(zero, head, many...), "AES-128 " + zeros + words + " @4B30,42,3030,45"}, {with(zero, api.Head{}, many...), "AES-128 " + zeros + words}, {sample(4), "TDES-2 00" + strings.Repeat("01", 15)},
	} {
		if got := Text(c.r); got != c.want {
			t.Errorf("Text(%v) = %q", c.r, got)
		}
		if got, err := Parse(c.want); !Same(got, c.r) || err != api.OK {
			t.Errorf("Parse(%q) = %v, %d", c.want, got, err)
		}
	}
	for k := 1; k <= 11; k++ {
		if got, err := Parse(Text(sample(k))); !Same(got, sample(k)) || err != api.OK || !strings.HasPrefix(Text(sample(k)), kind.Name(k)+" ") {
			t.Errorf("Parse of Text of kind %d", k)
		}
	}
}

// P27.2
func TestParseOther(t *testing.T) {
	const k = "AES-128 00000000000000000000000000000000"
	var many string
	for i := range 33 {
		many += " " + []string{"1", "2", "3", "4", "5", "6", "7", "8", "9"}[i%9] + strings.Repeat("0", i/9) + "=AB"
	}
	for _, s := range []string{
		"", " ", "AES-128", "AES-128 ", k + " ", " " + k, k + "  5=61", "AES-128  " + zeros, "aes-128 " + zeros, "AES-129 " + zeros, " " + zeros, "AES-192 " + zeros, k + "0", k + "00", "AES-128 " + strings.Repeat("0A", 15) + "0a", "AES-128 " + strings.Repeat("0G", 16),
		"EC-P256 " + zeros + zeros, "EC-P256 " + strings.Repeat("FF", 32), k + " 5", k + " =61", k + " 5=6", k + " 5=6g", k + " 5=ab", k + " 05=61", k + " +5=61", k + " -5=61", k + " 0=61", k + " 65536=61", k + " 5=61=", k + " 5==61", k + " 5=61 5=61", k + " 7=61 5=61", k + " 5=" + strings.Repeat("00", 256),
		k + " @", k + " @,,,", k + " @4B30,42,3030", k + " @4B30,42,3030,45,", k + " @4B30,42,3030,4", k + " @4b30,42,3030,45", k + " @4B30,42,3030,45 ", k + " @4B30,42,3030,45 5=61", k + " @4B30,42,3030,45 @4B30,42,3030,45", k + " 4B30,42,3030,45", "AES-128 @4B30,42,3030,45", "@4B30,42,3030,45",
		k + many, k + "\n", strings.Repeat(" ", 100), strings.Repeat("AES-128 ", 100), k + " @" + strings.Repeat(",", 100),
	} {
		if r, err := Parse(s); !reflect.DeepEqual(r, api.Record{}) || err != api.ErrForm {
			t.Errorf("Parse(%q) = %v, %d", s, r, err)
		}
	}
}
