package dump

import (
	"encoding/hex"
	"math/rand"
	"reflect"
	"slices"
	"strings"
	"testing"

	"claviger/api"
	"claviger/frame"
	"claviger/tree"
)

func un(s string) string {
	b, err := hex.DecodeString(strings.ReplaceAll(s, " ", ""))
	if err != nil {
		panic(err)
	}
	return string(b)
}

var good = map[string][]string{
	"30 03 02 01 05": {"U16 +", "  U2 05"}, "05 00": {"U5 -"}, "04 00": {"U4 -"}, "04 02 ab 00": {"U4 AB00"}, "30 00": {"U16 +"}, "df ff ff 7f 01 00": {"P2097151 00"},
	"30 0e 31 06 a0 02 41 00 80 00 05 00 e0 02 c5 00": {"U16 +", "  U17 +", "    C0 +", "      A1 -", "    C0 -", "  U5 -", "  P0 +", "    P5 -"},
}

// P47.1, P47.3
func TestLines(t *testing.T) {
	for s, want := range good {
		got, fault := Lines(un(s))
		if !slices.Equal(got, want) || fault != (api.Fault{}) {
			t.Errorf("Lines(%s) = %q, %v", s, got, fault)
		}
		if back, err := Read(want); back != un(s) || err != api.OK {
			t.Errorf("Read(%q) = %x, %d", want, back, err)
		}
	}
	for s, want := range map[string]api.Fault{"": {Code: api.ErrEmpty}, "30 80": {Code: api.ErrForm}, "30 03 02 02 05": {Code: api.ErrForm, At: 2}, "05 00 05": {Code: api.ErrForm, At: 2}, "30 84": {Code: api.ErrSize}} {
		if got, fault := Lines(un(s)); len(got) != 0 || fault != want {
			t.Errorf("Lines(%s) = %q, %v", s, got, fault)
		}
	}
}

func random(r *rand.Rand, depth int) api.Tree {
	if depth < 16 && r.Intn(3) > 0 {
		var parts []api.Tree
		for range r.Intn(4) {
			parts = append(parts, random(r, depth+1))
		}
		return tree.Of(r.Intn(4), 16+r.Intn(2), parts...)
	}
	return []api.Tree{tree.Leaf(0, 5, ""), tree.Leaf(0, 2, "\x00"), tree.Leaf(0, 4, strings.Repeat("y", r.Intn(30))), tree.Leaf(2, r.Intn(api.MaxTag+1), "\x80")}[r.Intn(4)]
}

// P47.1, P47.3
func TestInverses(t *testing.T) {
	r := rand.New(rand.NewSource(1))
	for range 500 {
		x := random(r, 1)
		s, err := tree.Encode(x)
		if err != api.OK {
			continue
		}
		l, fault := Lines(s)
		if fault.Code != api.OK || len(l) != len(x) {
			t.Fatalf("Lines(%x)", s)
		}
		if back, err := Read(l); back != s || err != api.OK {
			t.Fatalf("Read(%q) = %x, %d", l, back, err)
		}
		if len(l) > 1 {
			i := r.Intn(len(l))
			l[i] = []string{" " + l[i], "  " + l[i], strings.TrimPrefix(l[i], "  "), l[i] + " ", strings.Replace(l[i], "+", "-", 1), "", "U5 -"}[r.Intn(7)]
			back, err := Read(l)
			again, _ := Lines(back)
			if err == api.OK && !slices.Equal(again, l) || err != api.OK && (back != "" || err != api.ErrForm) {
				t.Fatalf("Read(%q) = %x, %d", l, back, err)
			}
		}
	}
}

// P47.1
func TestReadOther(t *testing.T) {
	deep := []string{"U16 +"}
	for len(deep) < 17 {
		deep = append(deep, strings.Repeat("  ", len(deep))+"U16 +")
	}
	many := append([]string{"U16 +"}, slices.Repeat([]string{"  U5 -"}, 999)...)
	for _, l := range [][]string{
		nil, {}, {""}, {" "}, {"U"}, {"U5"}, {"U5 "}, {"U5 --"}, {"5 -"}, {"X5 -"}, {"u5 -"}, {" U5 -"}, {"  U5 -"}, {"U05 -"}, {"U+5 -"}, {"U-5 -"}, {"U5  -"}, {"U5 - "}, {"U5 00"}, {"U2 -"}, {"U2 5"}, {"U2 0g"}, {"U2 ab"}, {"U2 +"}, {"U16 -"}, {"U4 "}, {"U0 -"}, {"P2097152 -"}, {"U9999999999999999999 -"}, {"\u00dc5 -"},
		{"U5 -", "U5 -"}, {"U16 +", "U5 -"}, {"U16 +", "    U5 -"}, {"U16 +", " U5 -"}, {"U16 +", "   U5 -"}, {"U5 -", "  U5 -"}, {"U16 +", "  U5 -", "    U5 -"}, {"U16 +", "  U5 -", "U5 -"}, {"U16 +", "", "  U5 -"}, {"U16 +", "\tU5 -"}, {"U16 ++"},
		deep, append(slices.Clone(many), "  U5 -"), make([]string, 5000), {"U4 " + strings.Repeat("00", 65532)}, {strings.Repeat(" ", 100000) + "U5 -"},
	} {
		if s, err := Read(l); s != "" || err != api.ErrForm {
			t.Errorf("Read(%.60q) = %.20x, %d", l, s, err)
		}
	}
	for _, l := range [][]string{deep[:16], many, {"U4 " + strings.Repeat("00", 65531)}} {
		if s, err := Read(l); s == "" || err != api.OK {
			t.Errorf("Read of %d lines: %d", len(l), err)
		}
	}
}

// P47.2
func TestBlock(t *testing.T) {
	h := api.Head{Usage: "K0", Mode: "B", Version: "c1", Export: "E"}
	top, _ := frame.Top("A", h, []api.Attr{{Tag: 5, Value: "a"}, {Tag: 700}}, 48)
	b := frame.Join(top, strings.Repeat("c", 48), "sixteen byte tag")
	want := []string{"usage K0", "letter A", "mode B", "version c1", "export E", "attr 5=61", "attr 700=", "cipher 48", "tag 7369787465656E206279746520746167"}
	if got, err := Block(b); !reflect.DeepEqual(got, want) || err != api.OK {
		t.Errorf("Block = %q, %d", got, err)
	}
	for b, want := range map[string]api.Errno{"": api.ErrEmpty, "x": api.ErrForm, strings.Repeat("x", 10000): api.ErrSize, "D0080K0HB00E0000" + strings.Repeat("0", 64): api.ErrHead, b + "0": api.ErrForm} {
		if got, err := Block(b); len(got) != 0 || err != want {
			t.Errorf("Block(%.20q) = %q, %d", b, got, err)
		}
	}
}
