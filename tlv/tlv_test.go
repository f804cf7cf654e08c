package tlv

import (
	"encoding/hex"
	"math/rand"
	"reflect"
	"strings"
	"testing"

	"claviger/api"
	"claviger/head"
	"claviger/span"
	"claviger/strs"
)

func un(s string) string {
	b, err := hex.DecodeString(strings.ReplaceAll(s, " ", ""))
	if err != nil {
		panic(err)
	}
	return string(b)
}

// el returns an element with a head as short as possible.
func el(class, tag int, cons bool, contents string) string {
	s, err := head.Encode(head.Head{Class: class, Tag: tag, Cons: cons, Len: len(contents)})
	if err != api.OK {
		panic("head")
	}
	return s + contents
}

func seq(parts ...string) string {
	return el(0, 16, true, strings.Join(parts, ""))
}

func deep(n int) string {
	s := seq()
	for range n - 1 {
		s = seq(s)
	}
	return s
}

// P19.1, P19.2
func TestDecode(t *testing.T) {
	tree, fault := Decode(un("30 03 02 01 05"))
	if want := (api.Tree{{Tag: 16, Cons: true, Kids: []int{1}}, {Tag: 2, Data: "\x05"}}); !reflect.DeepEqual(tree, want) || fault != (api.Fault{}) {
		t.Errorf("%v, %v", tree, fault)
	}
	if got := Spans(un("30 03 02 01 05")); !reflect.DeepEqual(got, []complex128{5i, 2 + 5i}) {
		t.Errorf("Spans = %v", got)
	}
	s := seq(seq(el(0, 2, false, "\x01"), el(2, 40, true, "")), el(0, 4, false, "abc"), el(0, 17, true, el(0, 5, false, "")), el(1, 3, false, "x"))
	tree, fault = Decode(s)
	want := api.Tree{
		{Tag: 16, Cons: true, Kids: []int{1, 4, 5, 7}}, {Tag: 16, Cons: true, Kids: []int{2, 3}}, {Tag: 2, Data: "\x01"}, {Class: 2, Tag: 40, Cons: true},
		{Tag: 4, Data: "abc"}, {Tag: 17, Cons: true, Kids: []int{6}}, {Tag: 5}, {Class: 1, Tag: 3, Data: "x"},
	}
	if !reflect.DeepEqual(tree, want) || fault != (api.Fault{}) {
		t.Errorf("%v, %v", tree, fault)
	}
	if got := Spans(s); !reflect.DeepEqual(got, []complex128{22i, 2 + 10i, 4 + 7i, 7 + 10i, 10 + 15i, 15 + 19i, 17 + 19i, 19 + 22i}) {
		t.Errorf("Spans = %v of %x", got, s)
	}
	if tree, fault := Decode("\x05\x00"); !reflect.DeepEqual(tree, api.Tree{{Tag: 5}}) || fault != (api.Fault{}) {
		t.Errorf("%v, %v", tree, fault)
	}
}

// P19.1
func TestFaults(t *testing.T) {
	many := func(n int) string { return seq(strings.Repeat("\x05\x00", n)) }
	for _, c := range []struct {
		s    string
		want api.Fault
	}{
		{"", api.Fault{Code: api.ErrEmpty}}, {strings.Repeat("\x00", api.MaxSize+1), api.Fault{Code: api.ErrSize}}, {un("30 80"), api.Fault{Code: api.ErrForm}}, {"0", api.Fault{Code: api.ErrForm}},
		{un("30 84 00 00"), api.Fault{Code: api.ErrSize}}, {un("30 03 02 01"), api.Fault{Code: api.ErrForm}}, {un("30 03 02 02 05"), api.Fault{Code: api.ErrForm, At: 2}}, {un("30 03 02 83 05"), api.Fault{Code: api.ErrSize, At: 2}},
		{un("30 01 02 01 05"), api.Fault{Code: api.ErrForm, At: 2}}, {un("30 02 02 01 05"), api.Fault{Code: api.ErrForm, At: 2}}, {un("30 00 00"), api.Fault{Code: api.ErrForm, At: 2}}, {un("05 00 05 00"), api.Fault{Code: api.ErrForm, At: 2}}, {un("30 02 05 00 ff"), api.Fault{Code: api.ErrForm, At: 4}},
		{un("30 04 05 00 05 01"), api.Fault{Code: api.ErrForm, At: 4}}, {un("02 02 00 05"), api.Fault{Code: api.ErrForm}}, {un("30 03 01 01 02"), api.Fault{Code: api.ErrForm, At: 2}}, {un("22 00"), api.Fault{Code: api.ErrForm}}, {un("24 02 04 00"), api.Fault{Code: api.ErrForm}}, {un("10 00"), api.Fault{Code: api.ErrForm}}, {un("11 00"), api.Fault{Code: api.ErrForm}}, {un("0a 01 01"), api.Fault{Code: api.ErrForm}}, {un("00 00"), api.Fault{Code: api.ErrForm}},
		{un("30 06 30 04 02 01 05 05 00"), api.Fault{Code: api.ErrForm, At: 7}}, {un("30 81 01 00"), api.Fault{Code: api.ErrForm}},
		{deep(17), api.Fault{Code: api.ErrDepth, At: 32}}, {deep(18), api.Fault{Code: api.ErrDepth, At: 32}},
		{many(1000), api.Fault{Code: api.ErrSize, At: 4 + 2*999}}, {many(1500), api.Fault{Code: api.ErrSize, At: 4 + 2*999}},
		{strings.Repeat("\x05\x00", 1001), api.Fault{Code: api.ErrForm, At: 2}},
	} {
		if tree, fault := Decode(c.s); len(tree) != 0 || fault != c.want {
			t.Errorf("Decode(%.60x) = %v, want %v", c.s, fault, c.want)
		}
		if len(Spans(c.s)) != 0 {
			t.Errorf("Spans(%.60x)", c.s)
		}
	}
	for _, s := range []string{deep(16), many(999), el(0, 4, false, strings.Repeat("x", api.MaxSize-4)), el(2, 5, true, el(0, 12, false, "\u00e9"))} {
		if tree, fault := Decode(s); len(tree) == 0 || fault != (api.Fault{}) {
			t.Errorf("Decode(%.40x) = %v", s, fault)
		}
	}
}

// Of several errors of one element, the first one in the order of the chapter is returned.
func TestOrderOfFaults(t *testing.T) {
	inDeep := func(last string) string {
		s := last
		for range 16 {
			s = seq(s)
		}
		return s
	}
	nulls := strings.Repeat("\x05\x00", 999)
	for _, c := range []struct {
		s    string
		want api.Fault
	}{
		{inDeep(un("02 83")), api.Fault{Code: api.ErrSize, At: 32}}, {inDeep(un("02 05 00")), api.Fault{Code: api.ErrForm, At: 32}}, {inDeep(un("00 00")), api.Fault{Code: api.ErrDepth, At: 32}},
		{seq(nulls + "\x00\x00"), api.Fault{Code: api.ErrSize, At: 4 + 2*999}}, {seq(nulls + "\x05\x01"), api.Fault{Code: api.ErrForm, At: 4 + 2*999}},
		{seq(el(0, 5, false, "x"), "\x05\x05"), api.Fault{Code: api.ErrForm, At: 2}}, {seq("\x05\x00", "\x05\x05") + "rest", api.Fault{Code: api.ErrForm, At: 4}},
	} {
		if tree, fault := Decode(c.s); len(tree) != 0 || fault != c.want {
			t.Errorf("Decode(%.60x) = %v, want %v", c.s, fault, c.want)
		}
	}
}

// reference decodes by recursion.
type reference struct {
	s     string
	nodes api.Tree
	spans []complex128
	fault api.Fault
}

func (r *reference) element(at, end, depth int) int {
	h, n, err := head.Decode(r.s[at:end])
	if err == api.OK && at+n+h.Len > end {
		err = api.ErrForm
	} else if err == api.OK && depth > 16 {
		err = api.ErrDepth
	} else if err == api.OK && len(r.nodes) >= 1000 {
		err = api.ErrSize
	} else if err == api.OK && h.Class == 0 && (h.Cons && h.Tag != 16 && h.Tag != 17 || !h.Cons && !strs.Right(h.Tag, r.s[at+n:at+n+h.Len])) {
		err = api.ErrForm
	}
	if err != api.OK {
		r.fault = api.Fault{Code: err, At: at}
		return -1
	}
	me := len(r.nodes)
	r.nodes = append(r.nodes, api.Node{Class: h.Class, Tag: h.Tag, Cons: h.Cons})
	r.spans = append(r.spans, span.Of(at, at+n+h.Len))
	at, end = at+n, at+n+h.Len
	if !h.Cons {
		r.nodes[me].Data = r.s[at:end]
		return end
	}
	for at < end {
		r.nodes[me].Kids = append(r.nodes[me].Kids, len(r.nodes))
		if at = r.element(at, end, depth+1); at < 0 {
			return -1
		}
	}
	return end
}

func randomDER(r *rand.Rand, depth int) string {
	if depth < 17 && r.Intn(3) > 0 {
		s := ""
		for range r.Intn(4) {
			s += randomDER(r, depth+1)
		}
		return el([]int{0, 0, 2}[r.Intn(3)], 16+r.Intn(2), true, s)
	}
	return []string{"\x05\x00", "\x02\x01\x05", "\x01\x01\xff", "\x04\x03abc", "\x06\x02\x2a\x03", "\x0c\x01x", "\x13\x01y", "\x9f\x1f\x01z"}[r.Intn(8)]
}

// P19.1, P19.2, P19.3
func TestAgainstReference(t *testing.T) {
	r := rand.New(rand.NewSource(1))
	good := 0
	for i := range 30000 {
		s := []byte(seq(randomDER(r, 2), randomDER(r, 2)))
		if i%2 == 1 {
			for range 1 + r.Intn(2) {
				s[r.Intn(len(s))] = []byte{0, 1, 2, 3, 5, 16, 0x30, 0x80, 0x83, 0xff, byte(r.Intn(256))}[r.Intn(11)]
			}
		}
		want := reference{s: string(s)}
		if end := want.element(0, len(s), 1); end >= 0 && end < len(s) {
			want.fault = api.Fault{Code: api.ErrForm, At: end}
		}
		tree, fault := Decode(string(s))
		spans := Spans(string(s))
		if fault != want.fault {
			t.Fatalf("Decode(%x) = %v, want %v", s, fault, want.fault)
		}
		if fault.Code != api.OK {
			if len(tree) != 0 || len(spans) != 0 {
				t.Fatalf("%x", s)
			}
			continue
		}
		good++
		if !reflect.DeepEqual(tree, want.nodes) || !reflect.DeepEqual(spans, want.spans) {
			t.Fatalf("Decode(%x) = %v", s, tree)
		}
		for i, n := range tree {
			for k, kid := range n.Kids {
				if !span.Inside(spans[kid], spans[i]) || k > 0 && !span.Apart(spans[n.Kids[k-1]], spans[kid]) {
					t.Fatalf("spans of %x", s)
				}
			}
		}
	}
	if good < 10000 {
		t.Errorf("only %d were decoded", good)
	}
}

// P19.2
func TestPieces(t *testing.T) {
	for _, c := range []struct {
		s     string
		want  []string
		fault api.Fault
	}{
		{"", nil, api.Fault{}}, {"\x05\x00", []string{"\x05\x00"}, api.Fault{}}, {un("30 03 02 02 05 00 01"), nil, api.Fault{Code: api.ErrForm, At: 5}},
		{"\x05\x00\x02\x02\x00\x05\x30\x00", []string{"\x05\x00", "\x02\x02\x00\x05", "\x30\x00"}, api.Fault{}}, {"\x00\x00\x10\x01x", []string{"\x00\x00", "\x10\x01x"}, api.Fault{}},
		{"\x05\x00\x05", nil, api.Fault{Code: api.ErrForm, At: 2}}, {"\x05\x00\x05\x01", nil, api.Fault{Code: api.ErrForm, At: 2}}, {"\x05\x00\x05\x83", nil, api.Fault{Code: api.ErrSize, At: 2}}, {"\x05\x80", nil, api.Fault{Code: api.ErrForm}},
		{strings.Repeat("\x05\x00", 2000), strings.SplitAfter(strings.Repeat("\x05\x00", 2000), "\x00")[:2000], api.Fault{}},
		{strings.Repeat("\x05\x00", 32768), nil, api.Fault{Code: api.ErrSize}},
	} {
		got, fault := Pieces(c.s)
		if fault != c.fault || len(got) != len(c.want) || len(got) > 0 && !reflect.DeepEqual(got, c.want) {
			t.Errorf("Pieces(%.40x) = %.100x, %v", c.s, got, fault)
		}
	}
	longest := el(0, 4, false, strings.Repeat("x", api.MaxSize-4))
	if l, fault := Pieces(longest); len(longest) != api.MaxSize || len(l) != 1 || fault.Code != api.OK {
		t.Error("a piece of the greatest size")
	}
	if l, fault := Pieces(longest + "x"); len(l) != 0 || fault != (api.Fault{Code: api.ErrSize}) {
		t.Error("a piece that is too long")
	}
	if l, fault := Pieces(strings.Repeat("\x05\x00", 32767)); len(l) != 32767 || fault.Code != api.OK {
		t.Error("many pieces")
	}
}
