package store

import (
	"fmt"
	"reflect"
	"slices"
	"strings"
	"testing"

	"claviger/api"
	"claviger/record"
	"claviger/service"
)

var (
	kek   = strings.Repeat("k", 16)
	other = strings.Repeat("l", 32)
	pads  = strings.Repeat("p", 30)
	bare  = api.Record{Kind: 1, Key: strings.Repeat("a", 16), Attrs: []api.Attr{{Tag: 5, Value: "x"}}}
	full  = api.Record{Kind: 1, Key: strings.Repeat("b", 16), Head: api.Head{Usage: "K0", Mode: "B", Version: "00", Export: "E"}}
)

func slot(name string) api.Slot {
	return api.Slot{Name: name, Format: 1, Blob: "blob"}
}

func slots(names ...string) api.Store {
	var s api.Store
	for _, name := range names {
		s.Slots = append(s.Slots, slot(name))
	}
	return s
}

func numbered(n int) api.Store {
	var s api.Store
	for i := range n {
		s.Slots = append(s.Slots, slot(fmt.Sprintf("n%02d", i)))
	}
	return s
}

// made returns a store with two keys.
func made(t *testing.T) api.Store {
	s, err := Put(kek, api.Store{}, "m", api.Wrapped, bare, "")
	if err != api.OK {
		t.Fatal(err)
	}
	s, err = Put(kek, s, "c", api.Keyed, full, pads)
	if err != api.OK {
		t.Fatal(err)
	}
	return s
}

// P48.1
func TestName(t *testing.T) {
	for _, s := range []string{"a", "z", "0", "9", "-", "a-9", strings.Repeat("x", 20)} {
		if !Name(s) {
			t.Errorf("Name(%q)", s)
		}
	}
	for c := range 256 {
		s := string([]byte{byte(c)})
		if want := strings.Contains("abcdefghijklmnopqrstuvwxyz0123456789-", s); Name(s) != want || Name("a"+s) != want {
			t.Errorf("Name(%q)", s)
		}
	}
	for _, s := range []string{"", strings.Repeat("x", 21), "a b", "A", "\u00e9"} {
		if Name(s) {
			t.Errorf("Name(%q)", s)
		}
	}
}

var invalid = []api.Store{
	slots("b", "a"), slots("a", "a"), slots("A"), slots(""), numbered(17), {Slots: []api.Slot{{Name: "a", Format: 0, Blob: "x"}}}, {Slots: []api.Slot{{Name: "a", Format: 3, Blob: "x"}}}, {Slots: []api.Slot{{Name: "a", Format: 1}}}, {Slots: []api.Slot{{Name: "a", Format: 2, Blob: strings.Repeat("x", api.MaxBlob+1)}}}, {Slots: make([]api.Slot, 1)}, {Slots: append(slots("a").Slots, api.Slot{Name: "b"})},
}

// P48.1
func TestCheckAndNames(t *testing.T) {
	for _, s := range []api.Store{{}, slots("a"), slots("-", "0", "a", "aa", "ab"), numbered(16), {Slots: []api.Slot{{Name: "a", Format: 2, Blob: strings.Repeat("x", api.MaxBlob)}}}} {
		if err := Check(s); err != api.OK {
			t.Errorf("Check of %d slots: %d", len(s.Slots), err)
		}
		var want []string
		for _, x := range s.Slots {
			want = append(want, x.Name)
		}
		if got := Names(s); !slices.Equal(got, want) {
			t.Errorf("Names = %q", got)
		}
	}
	for _, s := range invalid {
		if err := Check(s); err != api.ErrArg || len(Names(s)) != 0 {
			t.Errorf("Check of %.80v: %d", s, err)
		}
		_, e1 := Put("", s, "", 0, api.Record{}, "")
		_, e2 := Add("", s, "", 0, "")
		_, _, e3 := Get("", s, "")
		format, b, e4 := Blob(s, "")
		if format != 0 || b != "" {
			t.Errorf("Blob of an invalid store: %d, %q", format, b)
		}
		_, e5 := Drop(s, "")
		_, e6 := Move(s, "", "x")
		_, e7 := Rekey("", "", s)
		if errs := [7]api.Errno{e1, e2, e3, e4, e5, e6, e7}; errs != [7]api.Errno{1, 1, 1, 1, 1, 1, 1} {
			t.Errorf("errors of an invalid store: %v", errs)
		}
	}
}

// P48.2, P48.3, P48.5
func TestPutAndGet(t *testing.T) {
	s := made(t)
	if !slices.Equal(Names(s), []string{"c", "m"}) || s.Slots[0].Format != api.Keyed || s.Slots[1].Format != api.Wrapped {
		t.Errorf("%v", s)
	}
	want, _ := service.Export(kek, api.Keyed, full, pads)
	if format, b, err := Blob(s, "c"); format != api.Keyed || b != want || err != api.OK {
		t.Errorf("Blob: %d, %d", format, err)
	}
	if r, p, err := Get(kek, s, "c"); !record.Same(r, full) || p != pads || err != api.OK {
		t.Errorf("Get: %d", err)
	}
	if r, p, err := Get(kek, s, "m"); !record.Same(r, bare) || p != "" || err != api.OK {
		t.Errorf("Get: %d", err)
	}
	before := slices.Clone(s.Slots)
	more, err := Add(kek, s, "f", api.Keyed, want)
	if !slices.Equal(Names(more), []string{"c", "f", "m"}) || more.Slots[1] != (api.Slot{Name: "f", Format: api.Keyed, Blob: want}) || err != api.OK || !slices.Equal(s.Slots, before) {
		t.Errorf("Add: %d", err)
	}
	more.Slots[0].Name = "changed"
	if s.Slots[0].Name != "c" {
		t.Error("Add shares its list")
	}
	for name, want := range map[string]api.Errno{"x": api.ErrNone, "": api.ErrNone, "A": api.ErrNone, "cc": api.ErrNone} {
		if r, p, err := Get(kek, s, name); !reflect.DeepEqual(r, api.Record{}) || p != "" || err != want {
			t.Errorf("Get(%q): %d", name, err)
		}
		if format, b, err := Blob(s, name); format != 0 || b != "" || err != want {
			t.Errorf("Blob(%q): %d", name, err)
		}
	}
	if r, _, err := Get(other, s, "c"); !reflect.DeepEqual(r, api.Record{}) || err != api.ErrSum {
		t.Errorf("Get with another key: %d", err)
	}
	if r, _, err := Get("short", s, "c"); !reflect.DeepEqual(r, api.Record{}) || err != api.ErrKey {
		t.Errorf("Get with a short key: %d", err)
	}
}

// P48.2
func TestPutErrors(t *testing.T) {
	good, _ := service.Export(kek, api.Wrapped, bare, "")
	for _, c := range []struct {
		kek       string
		s         api.Store
		name      string
		format    int
		put, add  api.Errno
		pads, raw string
	}{
		{"", numbered(16), "A", 0, api.ErrArg, api.ErrArg, "x", ""}, {"", numbered(16), "n03", 0, api.ErrTwice, api.ErrTwice, "x", ""}, {"", numbered(16), "x", 0, api.ErrFull, api.ErrFull, "x", ""}, {"", numbered(15), "x", 0, api.ErrKind, api.ErrKind, "x", ""}, {"", numbered(15), "x", 1, api.ErrKey, api.ErrKey, "x", ""},
		{kek, numbered(15), "x", 1, api.ErrPad, api.ErrEmpty, "x", ""}, {kek, numbered(15), "x", 2, api.ErrHead, api.ErrForm, "", "x"}, {kek, numbered(15), "x", 1, api.OK, api.OK, "", good}, {other, numbered(15), "x", 1, api.OK, api.ErrSum, "", good}, {kek, numbered(15), "", 1, api.ErrArg, api.ErrArg, "", good},
	} {
		s, err := Put(c.kek, c.s, c.name, c.format, bare, c.pads)
		if err != c.put || (err == api.OK) != (len(s.Slots) == len(c.s.Slots)+1) || err != api.OK && len(s.Slots) != 0 {
			t.Errorf("Put(%q, %d) = %d, want %d", c.name, c.format, err, c.put)
		}
		s, err = Add(c.kek, c.s, c.name, c.format, c.raw)
		if err != c.add || (err == api.OK) != (len(s.Slots) == len(c.s.Slots)+1) || err != api.OK && len(s.Slots) != 0 {
			t.Errorf("Add(%q, %d) = %d, want %d", c.name, c.format, err, c.add)
		}
	}
}

// P48.3, P48.5
func TestDropAndMove(t *testing.T) {
	s := slots("a", "c", "e")
	for i, name := range []string{"a", "c", "e"} {
		want := slices.Delete(slices.Clone(s.Slots), i, i+1)
		if got, err := Drop(s, name); !slices.Equal(got.Slots, want) || err != api.OK {
			t.Errorf("Drop(%q) = %v, %d", name, got, err)
		}
	}
	for _, c := range []struct {
		name, to string
		want     []string
	}{{"a", "b", []string{"b", "c", "e"}}, {"a", "d", []string{"c", "d", "e"}}, {"a", "f", []string{"c", "e", "f"}}, {"e", "0", []string{"0", "a", "c"}}, {"c", "cc", []string{"a", "cc", "e"}}, {"c", "b", []string{"a", "b", "e"}}} {
		marked := slots("a", "c", "e")
		for i := range marked.Slots {
			marked.Slots[i].Blob = marked.Slots[i].Name
		}
		got, err := Move(marked, c.name, c.to)
		if !slices.Equal(Names(got), c.want) || err != api.OK {
			t.Errorf("Move(%q, %q) = %v, %d", c.name, c.to, got, err)
		}
		if _, b, _ := Blob(got, c.to); b != c.name {
			t.Errorf("Move(%q, %q) moves %q", c.name, c.to, b)
		}
	}
	if !slices.Equal(s.Slots, slots("a", "c", "e").Slots) {
		t.Error("an argument was changed")
	}
	for _, c := range []struct {
		name, to string
		want     api.Errno
	}{{"x", "A", api.ErrArg}, {"a", "", api.ErrArg}, {"x", "c", api.ErrNone}, {"", "b", api.ErrNone}, {"a", "c", api.ErrTwice}, {"a", "a", api.ErrTwice}} {
		if got, err := Move(s, c.name, c.to); len(got.Slots) != 0 || err != c.want {
			t.Errorf("Move(%q, %q): %d, want %d", c.name, c.to, err, c.want)
		}
	}
	if got, err := Drop(s, "b"); len(got.Slots) != 0 || err != api.ErrNone {
		t.Errorf("Drop: %d", err)
	}
	if got, err := Drop(slots("a"), "a"); len(got.Slots) != 0 || err != api.OK {
		t.Errorf("Drop of the only one: %d", err)
	}
	if got, err := Move(numbered(16), "n00", "z"); len(got.Slots) != 16 || err != api.OK {
		t.Errorf("Move in a full store: %d", err)
	}
}

// P48.4, P48.5
func TestRekey(t *testing.T) {
	s := made(t)
	before := slices.Clone(s.Slots)
	moved, err := Rekey(kek, other, s)
	if err != api.OK || !slices.Equal(Names(moved), Names(s)) || !slices.Equal(s.Slots, before) {
		t.Fatalf("Rekey: %d", err)
	}
	if r, p, err := Get(other, moved, "c"); !record.Same(r, full) || p != pads || err != api.OK {
		t.Errorf("Get after Rekey: %d", err)
	}
	if _, _, err := Get(kek, moved, "c"); err != api.ErrSum {
		t.Errorf("Get with the former key: %d", err)
	}
	back, err := Rekey(other, kek, moved)
	if err != api.OK || !slices.Equal(back.Slots, s.Slots) {
		t.Errorf("Rekey back: %d", err)
	}
	if got, err := Rekey(kek, other, api.Store{}); len(got.Slots) != 0 || err != api.OK {
		t.Errorf("Rekey of nothing: %d", err)
	}
	broken, _ := Rekey(kek, kek, s)
	broken.Slots[1].Blob = broken.Slots[1].Blob[1:]
	for _, c := range []struct {
		kek, to string
		s       api.Store
		want    api.Errno
	}{{"", other, s, api.ErrKey}, {kek, "", s, api.ErrKey}, {kek, "short", api.Store{}, api.ErrKey}, {"short", other, api.Store{}, api.ErrKey}, {other, kek, s, api.ErrSum}, {kek, other, broken, api.ErrSize}, {kek, other, slots("a"), api.ErrSize}} {
		if got, err := Rekey(c.kek, c.to, c.s); len(got.Slots) != 0 || err != c.want {
			t.Errorf("Rekey: %d, want %d", err, c.want)
		}
	}
}
