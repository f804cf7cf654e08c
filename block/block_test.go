package block

import (
	"math/rand"
	"reflect"
	"strings"
	"testing"

	"claviger/api"
	"claviger/frame"
	"claviger/kind"
	"claviger/load"
	"claviger/record"
	"claviger/seal"
	"claviger/table"
)

func sample(k int) api.Record {
	letter := kind.Letter(k)
	usage := table.Usages(letter)[0]
	return api.Record{Kind: k, Key: "\x00" + strings.Repeat("\x01", kind.Size(k)-1), Head: api.Head{Usage: usage, Mode: table.Modes(usage)[:1], Version: "00", Export: "E"}}
}

func with(r api.Record, l ...api.Attr) api.Record {
	r.Attrs = l
	return r
}

func many(n, size int) []api.Attr {
	var l []api.Attr
	for i := range n {
		l = append(l, api.Attr{Tag: i + 1, Value: strings.Repeat("v", size)})
	}
	return l
}

// P39.1, P39.2, P39.3
func TestBlocks(t *testing.T) {
	rnd := rand.New(rand.NewSource(1))
	random := func(n int) string {
		b := make([]byte, n)
		rnd.Read(b)
		return string(b)
	}
	for k := 1; k <= 11; k++ {
		for i, l := range [][]api.Attr{nil, {{Tag: 5, Value: "x"}, {Tag: 7}}, many(17, 255)} {
			kek, pads, r := random(16+8*((k+i)%3)), random(load.Pads(k)), with(sample(k), l...)
			letter := kind.Letter(k)
			top, _ := frame.Top(letter, r.Head, l, load.Total(letter))
			payload, _ := load.Make(k, r.Key, pads)
			cipher, tag, _ := seal.Seal(kek, top, payload)
			b, err := Export(kek, r, pads)
			if b != frame.Join(top, cipher, tag) || err != api.OK || Size(r) != len(b) || b == "" {
				t.Fatalf("Export of kind %d: %d", k, err)
			}
			got, gotPads, err := Import(kek, b)
			if !record.Same(got, r) || gotPads != pads || err != api.OK {
				t.Fatalf("Import of kind %d: %d", k, err)
			}
			other := random(len(kek))
			if got, gotPads, err := Import(other, b); !reflect.DeepEqual(got, api.Record{}) || gotPads != "" || err != api.ErrSum {
				t.Errorf("Import with another key: %d", err)
			}
			if more, _ := Export(kek, r, random(len(pads))); more == b {
				t.Error("two blocks with different pads are equal")
			}
		}
	}
	plain := api.Record{Kind: 1, Key: strings.Repeat("\x00", 16), Head: api.Head{Usage: "K0", Mode: "B", Version: "00", Export: "E"}}
	if b, err := Export(strings.Repeat("k", 16), plain, strings.Repeat("p", 30)); len(b) != 144 || !strings.HasPrefix(b, "D0144K0AB00E0000") || err != api.OK {
		t.Errorf("%s, %d", b, err)
	}
}

// P39.1
func TestExportErrors(t *testing.T) {
	kek := strings.Repeat("k", 16)
	bare, odd, bad := sample(1), sample(1), sample(1)
	bare.Head = api.Head{}
	odd.Head.Usage = "M7"
	bad.Head, bad.Attrs = api.Head{}, []api.Attr{{}}
	good := strings.Repeat("p", 30)
	for _, c := range []struct {
		kek  string
		r    api.Record
		pads string
		want api.Errno
	}{
		{"", api.Record{}, "", api.ErrKey}, {kek + "k", sample(1), good, api.ErrKey}, {kek, api.Record{}, "", api.ErrKind}, {kek, api.Record{Kind: 1}, "", api.ErrLength}, {kek, api.Record{Kind: 9, Key: strings.Repeat("\x00", 32)}, "", api.ErrValue}, {kek, bad, "", api.ErrAttr}, {kek, bare, "", api.ErrHead}, {kek, odd, "", api.ErrHead},
		{kek, sample(1), "", api.ErrPad}, {kek, sample(1), good[1:], api.ErrPad}, {kek, sample(1), good + "p", api.ErrPad}, {kek, with(sample(1), many(32, 255)...), "", api.ErrPad}, {kek, with(sample(1), many(32, 255)...), good, api.ErrSize}, {kek, with(sample(1), many(18, 255)...), good, api.ErrSize},
	} {
		if b, err := Export(c.kek, c.r, c.pads); b != "" || err != c.want {
			t.Errorf("Export(%v): %d, want %d", c.r, err, c.want)
		}
		if size := Size(c.r); c.want != api.ErrKey && c.want != api.ErrPad && size != 0 {
			t.Errorf("Size(%v) = %d", c.r, size)
		}
	}
	if Size(with(sample(1), many(32, 255)...)) != 0 || Size(sample(1)) == 0 {
		t.Error("Size")
	}
}

// P39.2
func TestImportErrors(t *testing.T) {
	kek := strings.Repeat("k", 16)
	sealed := func(letter, usage, payload string) string {
		top, err := frame.Top(letter, api.Head{Usage: usage, Mode: "N", Version: "00", Export: "E"}, nil, len(payload))
		if err != api.OK {
			t.Fatal(err)
		}
		cipher, tag, _ := seal.Seal(kek, top, payload)
		return frame.Join(top, cipher, tag)
	}
	good, _ := Export(kek, sample(1), strings.Repeat("p", 30))
	for _, c := range []struct {
		kek, b string
		want   api.Errno
	}{
		{"", "", api.ErrKey}, {"short", good, api.ErrKey}, {kek, "", api.ErrEmpty}, {kek, strings.Repeat("D", 10000), api.ErrSize}, {kek, "D", api.ErrForm}, {kek, good[:143], api.ErrForm}, {kek, good + "0", api.ErrForm}, {kek, strings.Replace(good, "D0144B0A", "D0144B0H", 1), api.ErrHead},
		{kek, "D0080B0AN00E0000" + strings.Repeat("0", 64), api.ErrSum}, {kek, strings.Replace(good, "00E", "00S", 1), api.ErrSum}, {kek, good[:143] + string("10"[good[143]%2]), api.ErrSum}, {kek, good, api.OK},
		{kek, sealed("A", "B0", "\x00\x80"+strings.Repeat("x", 30)), api.ErrForm}, {kek, sealed("A", "B0", "\x00\x81"+strings.Repeat("x", 46)), api.ErrForm}, {kek, sealed("A", "B0", "\x00\x88"+strings.Repeat("x", 46)), api.ErrKind}, {kek, sealed("T", "B0", "\x01\x00"+strings.Repeat("x", 30)), api.ErrForm}, {kek, sealed("T", "B0", "\x00\x08"+strings.Repeat("x", 30)), api.ErrKind},
		{kek, sealed("E", "S0", "\x01\x00"+strings.Repeat("\xff", 78)), api.ErrValue}, {kek, sealed("E", "S0", "\x01\x00"+strings.Repeat("\x00", 78)), api.ErrValue}, {kek, sealed("E", "S0", "\x01\x00"+strings.Repeat("\x01", 78)), api.OK}, {kek, sealed("A", "B0", "\x00\x80"+strings.Repeat("x", 46)), api.OK},
	} {
		r, pads, err := Import(c.kek, c.b)
		if err != c.want || err != api.OK && (!reflect.DeepEqual(r, api.Record{}) || pads != "") {
			t.Errorf("Import(%.40q) = %v, %d, want %d", c.b, r, err, c.want)
		}
		if again, e := Export(kek, r, pads); err == api.OK && (again != c.b || e != api.OK || record.Check(r) != api.OK) {
			t.Errorf("Export of Import of %q", c.b)
		}
	}
}

// P39.3: no other characters are accepted.
func TestChangedCharacters(t *testing.T) {
	kek := strings.Repeat("k", 24)
	b, _ := Export(kek, with(sample(9), api.Attr{Tag: 5, Value: "x"}), strings.Repeat("p", 46))
	for i := range len(b) {
		for _, c := range "0123456789ABCDEFNSTVXabcdef \x00" {
			x := b[:i] + string(c) + b[i+1:]
			if r, pads, err := Import(kek, x); x != b && (err == api.OK || !reflect.DeepEqual(r, api.Record{}) || pads != "") {
				t.Errorf("Import accepts %q", x)
			}
		}
	}
}
