package service

import (
	"reflect"
	"strings"
	"testing"

	"claviger/api"
	"claviger/blob"
	"claviger/block"
	"claviger/kind"
	"claviger/load"
	"claviger/record"
	"claviger/table"
)

func bare(k int) api.Record {
	return api.Record{Kind: k, Key: "\x00" + strings.Repeat("\x01", kind.Size(k)-1), Attrs: []api.Attr{{Tag: 5, Value: "x"}}}
}

func headed(k int) api.Record {
	r := bare(k)
	usage := table.Usages(kind.Letter(k))[0]
	r.Head = api.Head{Usage: usage, Mode: table.Modes(usage)[:1], Version: "c1", Export: "S"}
	return r
}

func keks() []string {
	return []string{strings.Repeat("k", 16), strings.Repeat("l", 24), strings.Repeat("m", 32)}
}

// P43.1, P43.2, P43.4
func TestFormats(t *testing.T) {
	for k := 1; k <= 11; k++ {
		for _, kek := range keks() {
			want, _ := blob.Export(kek, bare(k))
			b, err := Export(kek, api.Wrapped, bare(k), "")
			if b != want || err != api.OK || Size(api.Wrapped, bare(k)) != len(b) || Pads(api.Wrapped, bare(k)) != 0 {
				t.Errorf("Export of kind %d: %d", k, err)
			}
			if r, pads, err := Import(kek, api.Wrapped, b); !record.Same(r, bare(k)) || pads != "" || err != api.OK {
				t.Errorf("Import of kind %d: %d", k, err)
			}
			if r, pads, format, err := Any(kek, b); !record.Same(r, bare(k)) || pads != "" || format != api.Wrapped || err != api.OK {
				t.Errorf("Any of kind %d: %d", k, err)
			}
			all := strings.Repeat("p", Pads(api.Keyed, headed(k)))
			want, _ = block.Export(kek, headed(k), all)
			b, err = Export(kek, api.Keyed, headed(k), all)
			if b != want || err != api.OK || Size(api.Keyed, headed(k)) != len(b) || len(all) != load.Pads(k) {
				t.Errorf("Export of kind %d: %d", k, err)
			}
			if r, pads, err := Import(kek, api.Keyed, b); !record.Same(r, headed(k)) || pads != all || err != api.OK {
				t.Errorf("Import of kind %d: %d", k, err)
			}
			if r, pads, format, err := Any(kek, b); !record.Same(r, headed(k)) || pads != all || format != api.Keyed || err != api.OK {
				t.Errorf("Any of kind %d: %d", k, err)
			}
		}
	}
	for _, format := range []int{0, -1, 3, 100} {
		if Pads(format, headed(1)) != 0 || Size(format, headed(1)) != 0 || Size(format, bare(1)) != 0 {
			t.Errorf("format %d", format)
		}
	}
	if Pads(api.Keyed, api.Record{}) != 0 || Pads(api.Keyed, api.Record{Kind: 1}) != 30 || Size(api.Wrapped, headed(1)) != 0 || Size(api.Keyed, bare(1)) != 0 {
		t.Error("Pads and Size")
	}
}

// P43.1
func TestExportErrors(t *testing.T) {
	kek := keks()[0]
	for _, c := range []struct {
		kek    string
		format int
		r      api.Record
		pads   string
		want   api.Errno
	}{
		{"", 0, api.Record{}, "x", api.ErrKind}, {kek, 3, bare(1), "", api.ErrKind}, {"", 1, bare(1), "x", api.ErrKey}, {"short", 2, headed(1), "", api.ErrKey}, {kek, 1, bare(1), "x", api.ErrPad}, {kek, 1, api.Record{}, "x", api.ErrPad}, {kek, 1, api.Record{}, "", api.ErrKind}, {kek, 1, headed(1), "", api.ErrHead}, {kek, 1, api.Record{Kind: 1}, "", api.ErrLength},
		{kek, 2, api.Record{}, "x", api.ErrKind}, {kek, 2, bare(1), "", api.ErrHead}, {kek, 2, headed(1), "", api.ErrPad}, {kek, 2, headed(1), strings.Repeat("p", 31), api.ErrPad},
	} {
		if b, err := Export(c.kek, c.format, c.r, c.pads); b != "" || err != c.want {
			t.Errorf("Export(%d, %v): %d, want %d", c.format, c.r, err, c.want)
		}
	}
}

// P43.2, P43.3, P43.4
func TestImportErrors(t *testing.T) {
	kek := keks()[0]
	block, _ := Export(kek, api.Keyed, headed(1), strings.Repeat("p", 30))
	for _, c := range []struct {
		kek    string
		format int
		b      string
		want   api.Errno
	}{
		{"", 0, "", api.ErrKind}, {kek, -1, block, api.ErrKind}, {"", 1, "", api.ErrKey}, {"", 2, block, api.ErrKey}, {kek, 1, "", api.ErrEmpty}, {kek, 2, "", api.ErrEmpty}, {kek, 1, "x", api.ErrSize}, {kek, 2, "x", api.ErrForm}, {kek, 1, block, api.ErrSum}, {kek, 2, strings.Repeat("x", 48), api.ErrForm}, {keks()[1], 2, block, api.ErrSum},
	} {
		if r, pads, err := Import(c.kek, c.format, c.b); !reflect.DeepEqual(r, api.Record{}) || pads != "" || err != c.want {
			t.Errorf("Import(%d, %.30q): %d, want %d", c.format, c.b, err, c.want)
		}
	}
	for _, c := range []struct {
		kek, b string
		want   api.Errno
	}{
		{"", "", api.ErrKey}, {"short", block, api.ErrKey}, {kek, "", api.ErrEmpty}, {kek, "x", api.ErrForm}, {kek, block[:143], api.ErrForm}, {kek, block + "0", api.ErrForm}, {kek, strings.Repeat("x", 8), api.ErrForm}, {kek, strings.Repeat("x", 65552), api.ErrForm}, {kek, strings.Repeat("x", 16), api.ErrSum}, {keks()[2], block, api.ErrSum}, {kek, "D0144K0HB" + block[9:], api.ErrSum}, {kek, block[:156] + "abcd", api.ErrForm},
	} {
		if r, pads, format, err := Any(c.kek, c.b); !reflect.DeepEqual(r, api.Record{}) || pads != "" || format != 0 || err != c.want {
			t.Errorf("Any(%.30q) = %d, want %d", c.b, err, c.want)
		}
	}
}

// P43.3
func TestGuess(t *testing.T) {
	for b, want := range map[string]int{
		"": 0, "D0016K0AB00E0000": api.Keyed, "D0017K0AB00E0000": api.Wrapped, "D0017K0AB00E00000": api.Keyed, "D0018K0AB00E00000": 0, "D0016K0HB00E0000": api.Wrapped, strings.Repeat("x", 8): 0, strings.Repeat("x", 16): api.Wrapped, strings.Repeat("x", 17): 0, strings.Repeat("x", 65544): api.Wrapped, strings.Repeat("x", 65552): 0, strings.Repeat("x", 24): api.Wrapped,
	} {
		if got := Guess(b); got != want {
			t.Errorf("Guess(%.30q) = %d", b, got)
		}
	}
}
