package desk

import (
	"reflect"
	"slices"
	"strings"
	"testing"

	"claviger/api"
	"claviger/digits"
	"claviger/kcv"
	"claviger/record"
	"claviger/script"
	"claviger/service"
	"claviger/store"
)

var (
	kek   = strings.Repeat("k", 16)
	other = strings.Repeat("l", 32)
	pads  = strings.Repeat("p", 30)
)

const (
	bare   = "AES-128 61616161616161616161616161616161 5=78"
	headed = "AES-128 62626262626262626262626262626262 @4B30,42,3030,45"
)

func parse(t *testing.T, text string) api.Record {
	r, err := record.Parse(text)
	if err != api.OK {
		t.Fatal(text)
	}
	return r
}

// made returns a desk with a key in each format.
func made(t *testing.T) Desk {
	s, _ := store.Put(kek, api.Store{}, "m", api.Wrapped, parse(t, bare), "")
	s, err := store.Put(kek, s, "c", api.Keyed, parse(t, headed), pads)
	if err != api.OK {
		t.Fatal(err)
	}
	return Desk{kek, s}
}

func same(a, b Desk) bool {
	return a.Kek == b.Kek && slices.Equal(a.Store.Slots, b.Store.Slots)
}

// P50.1
func TestCheck(t *testing.T) {
	invalid := api.Store{Slots: make([]api.Slot, 1)}
	for _, c := range []struct {
		d    Desk
		want api.Errno
	}{{Desk{}, api.ErrKey}, {Desk{"short", invalid}, api.ErrKey}, {Desk{kek, invalid}, api.ErrArg}, {Desk{kek, api.Store{}}, api.OK}, {made(t), api.OK}, {Desk{other, made(t).Store}, api.OK}} {
		if err := Check(c.d); err != c.want {
			t.Errorf("Check = %d, want %d", err, c.want)
		}
		if c.want == api.OK {
			continue
		}
		if after, lines, err := Do(c.d, script.Step{}); !reflect.DeepEqual(after, c.d) || len(lines) != 0 || err != c.want {
			t.Errorf("Do: %d, want %d", err, c.want)
		}
		if s, err := Backup(c.d); s != "" || err != c.want {
			t.Errorf("Backup: %d, want %d", err, c.want)
		}
	}
}

func blob(t *testing.T, format int, text, pads string) string {
	b, err := service.Export(kek, format, parse(t, text), pads)
	if err != api.OK {
		t.Fatal(err)
	}
	return b
}

// P50.2
func TestDo(t *testing.T) {
	d := made(t)
	value, _ := kcv.Of(parse(t, bare))
	wrapped, keyed := blob(t, api.Wrapped, bare, ""), blob(t, api.Keyed, headed, pads)
	put, _ := store.Put(kek, d.Store, "x", api.Wrapped, parse(t, bare), "")
	add, _ := store.Add(kek, d.Store, "x", api.Keyed, keyed)
	drop, _ := store.Drop(d.Store, "m")
	move, _ := store.Move(d.Store, "m", "a")
	rekey, _ := store.Rekey(kek, other, d.Store)
	for _, c := range []struct {
		line  string
		after Desk
		want  []string
	}{
		{"put x wrapped - " + bare, Desk{kek, put}, []string{"put x"}}, {"add x keyed " + digits.Hex(keyed), Desk{kek, add}, []string{"add x"}},
		{"get m", d, []string{"m wrapped - " + bare}}, {"get c", d, []string{"c keyed " + digits.Hex(pads) + " " + headed}}, {"export m", d, []string{"m wrapped " + digits.Hex(wrapped)}}, {"export c", d, []string{"c keyed " + digits.Hex(keyed)}}, {"check m", d, []string{"m " + digits.Hex(value)}},
		{"drop m", Desk{kek, drop}, []string{"drop m"}}, {"move m a", Desk{kek, move}, []string{"move m a"}}, {"rekey " + digits.Hex(other), Desk{other, rekey}, []string{"rekey 2"}}, {"list", d, []string{"c keyed 144", "m wrapped " + digits.Num(len(wrapped))}},
	} {
		s, err := script.Parse(c.line)
		if err != api.OK {
			t.Fatal(c.line)
		}
		after, lines, err := Do(d, s)
		if !same(after, c.after) || !slices.Equal(lines, c.want) || err != api.OK {
			t.Errorf("Do of %.40q = %q, %d", c.line, lines, err)
		}
		if !same(d, made(t)) {
			t.Errorf("Do of %.40q changes its argument", c.line)
		}
		after.Store.Slots[0].Name = "changed"
		if d.Store.Slots[0].Name != "c" {
			t.Errorf("Do of %.40q shares its list", c.line)
		}
	}
	if after, lines, err := Do(Desk{kek, api.Store{}}, script.Step{Verb: "list"}); len(after.Store.Slots) != 0 || len(lines) != 0 || err != api.OK {
		t.Error("list of nothing")
	}
	if after, lines, err := Do(Desk{kek, api.Store{}}, script.Step{Verb: "rekey", Bytes: other}); after.Kek != other || !slices.Equal(lines, []string{"rekey 0"}) || err != api.OK {
		t.Error("rekey of nothing")
	}
}

// P50.2
func TestRejectedSteps(t *testing.T) {
	d := made(t)
	broken := made(t)
	broken.Store.Slots[1].Blob = strings.Repeat("x", 48)
	for _, c := range []struct {
		d    Desk
		s    script.Step
		want api.Errno
	}{
		{d, script.Step{}, api.ErrForm}, {d, script.Step{Verb: "get"}, api.ErrForm}, {d, script.Step{Verb: "list", Name: "x"}, api.ErrForm}, {d, script.Step{Verb: "put", Name: "x", Format: 1, Text: "AES-128"}, api.ErrForm},
		{d, script.Step{Verb: "put", Name: "m", Format: 1, Text: bare}, api.ErrTwice}, {d, script.Step{Verb: "put", Name: "X", Format: 1, Text: bare}, api.ErrArg}, {d, script.Step{Verb: "put", Name: "x", Format: 1, Text: headed}, api.ErrHead}, {d, script.Step{Verb: "put", Name: "x", Format: 2, Text: headed}, api.ErrPad}, {d, script.Step{Verb: "put", Name: "x", Format: 1, Text: bare, Bytes: "x"}, api.ErrPad},
		{d, script.Step{Verb: "add", Name: "x", Format: 1, Bytes: "x"}, api.ErrSize}, {d, script.Step{Verb: "add", Name: "x", Format: 2, Bytes: "x"}, api.ErrForm}, {d, script.Step{Verb: "add", Name: "c", Format: 2, Bytes: "x"}, api.ErrTwice},
		{d, script.Step{Verb: "get", Name: "x"}, api.ErrNone}, {d, script.Step{Verb: "export", Name: "x"}, api.ErrNone}, {d, script.Step{Verb: "check", Name: "x"}, api.ErrNone}, {d, script.Step{Verb: "drop", Name: "X"}, api.ErrNone}, {d, script.Step{Verb: "move", Name: "x", To: "y"}, api.ErrNone}, {d, script.Step{Verb: "move", Name: "c", To: "m"}, api.ErrTwice}, {d, script.Step{Verb: "move", Name: "c", To: "M"}, api.ErrArg},
		{d, script.Step{Verb: "rekey", Bytes: "short"}, api.ErrKey}, {Desk{other, d.Store}, script.Step{Verb: "rekey", Bytes: kek}, api.ErrSum}, {Desk{other, d.Store}, script.Step{Verb: "get", Name: "c"}, api.ErrSum}, {Desk{other, d.Store}, script.Step{Verb: "check", Name: "m"}, api.ErrSum}, {broken, script.Step{Verb: "rekey", Bytes: other}, api.ErrSum}, {broken, script.Step{Verb: "get", Name: "m"}, api.ErrSum},
	} {
		after, lines, err := Do(c.d, c.s)
		if !same(after, c.d) || len(lines) != 0 || err != c.want {
			t.Errorf("Do(%v) = %q, %d, want %d", c.s, lines, err, c.want)
		}
		if len(after.Store.Slots) > 0 {
			after.Store.Slots[0].Name = "changed"
			if c.d.Store.Slots[0].Name != "c" {
				t.Errorf("Do(%v) shares its list", c.s)
			}
		}
	}
	if _, lines, err := Do(Desk{other, d.Store}, script.Step{Verb: "list"}); len(lines) != 2 || err != api.OK {
		t.Error("list with another key")
	}
}

// P50.3
func TestRun(t *testing.T) {
	wrapped := blob(t, api.Wrapped, bare, "")
	plain := "AES-128 00000000000000000000000000000000"
	value, _ := kcv.Of(parse(t, bare))
	for _, c := range []struct {
		kek, t string
		want   []string
	}{
		{"", "", []string{"error key"}}, {"short", "list", []string{"error key"}}, {kek, "", nil}, {kek, "list\n", nil}, {kek, "list", []string{"error form 1"}}, {kek, "list\nx\n", []string{"error form 2"}}, {kek, strings.Repeat("list\n", 201), []string{"error full 201"}}, {kek, strings.Repeat("x", 40001) + "\n", []string{"error size 1"}},
		{kek, "put a wrapped - " + plain + "\nlist\n", []string{"put a", "a wrapped 48"}},
		{kek, "put b wrapped - " + bare + "\nput a keyed " + digits.Hex(pads) + " " + headed + "\nlist\nexport b\nget a\ncheck b\n", []string{"put b", "put a", "a keyed 144", "b wrapped " + digits.Num(len(wrapped)), "b wrapped " + digits.Hex(wrapped), "a keyed " + digits.Hex(pads) + " " + headed, "b " + digits.Hex(value)}},
		{kek, "get a\nput a wrapped - " + bare + "\nput a wrapped - " + bare + "\nget a\nmove a b\nget a\ndrop b\nlist\nadd x wrapped " + digits.Hex(wrapped) + "\nadd y keyed 00\nlist\n", []string{"error none", "put a", "error twice", "a wrapped - " + bare, "move a b", "error none", "drop b", "add x", "error form", "x wrapped " + digits.Num(len(wrapped))}},
		{kek, "add x wrapped " + digits.Hex(wrapped) + "\nrekey " + digits.Hex(other) + "\nadd y wrapped " + digits.Hex(wrapped) + "\nget x\nrekey 00\nrekey " + digits.Hex(kek) + "\nadd y wrapped " + digits.Hex(wrapped) + "\nexport x\n", []string{"add x", "rekey 1", "error sum", "x wrapped - " + bare, "error key", "rekey 1", "add y", "x wrapped " + digits.Hex(wrapped)}},
	} {
		if got := Run(c.kek, c.t); !slices.Equal(got, c.want) {
			t.Errorf("Run(%.80q) = %q", c.t, got)
		}
	}
	full := ""
	var want []string
	for i := range 17 {
		name := digits.Dec(i, 2)
		full += "put " + name + " wrapped - " + plain + "\n"
		want = append(want, "put "+name)
	}
	want[16] = "error full"
	if got := Run(kek, full); !slices.Equal(got, want) {
		t.Errorf("Run = %q", got)
	}
}

// P50.4, P50.5
func TestBackup(t *testing.T) {
	d := made(t)
	text, err := Backup(d)
	if text != "put c keyed "+digits.Hex(pads)+" "+headed+"\nput m wrapped - "+bare+"\n" || err != api.OK {
		t.Fatalf("Backup = %q, %d", text, err)
	}
	steps, fault := script.Lines(text)
	if fault.Code != api.OK {
		t.Fatal(fault)
	}
	again := Desk{Kek: kek}
	for _, s := range steps {
		again, _, err = Do(again, s)
		if err != api.OK {
			t.Fatal(err)
		}
	}
	if !same(again, d) {
		t.Error("the backup builds another store")
	}
	if text, err := Backup(Desk{Kek: kek}); text != "" || err != api.OK {
		t.Error("Backup of nothing")
	}
	if text, err := Backup(Desk{other, d.Store}); text != "" || err != api.ErrSum {
		t.Errorf("Backup with another key: %d", err)
	}
	broken := made(t)
	broken.Store.Slots[0].Blob = "x"
	broken.Store.Slots[1].Blob = strings.Repeat("x", 48)
	if text, err := Backup(broken); text != "" || err != api.ErrForm {
		t.Errorf("Backup of a broken store: %d", err)
	}
	broken.Store.Slots[0] = d.Store.Slots[0]
	if text, err := Backup(broken); text != "" || err != api.ErrSum {
		t.Errorf("Backup of a broken store: %d", err)
	}
}
