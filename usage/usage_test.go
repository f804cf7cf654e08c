package usage

import (
	"slices"
	"strings"
	"testing"

	"claviger/api"
	"claviger/table"
)

// P41.1
func TestOf(t *testing.T) {
	if got := strings.Join(Ops(), " "); got != "encrypt decrypt generate verify sign derive wrap unwrap" {
		t.Errorf("Ops = %s", got)
	}
	for _, c := range []struct{ usage, mode, want string }{
		{"D0", "E", "encrypt"}, {"D0", "D", "decrypt"}, {"D0", "B", "encrypt decrypt"}, {"D0", "N", "encrypt decrypt"}, {"M6", "G", "generate"}, {"M6", "V", "verify"}, {"M6", "C", "generate verify"}, {"M6", "N", "generate verify"}, {"S0", "S", "sign"}, {"S0", "T", "decrypt sign"}, {"S0", "V", "verify"}, {"S0", "N", "decrypt verify sign"}, {"B0", "X", "derive"}, {"B0", "N", "derive"},
		{"K0", "B", "wrap unwrap"}, {"K0", "E", "wrap"}, {"K0", "D", "unwrap"}, {"K0", "N", "wrap unwrap"}, {"K1", "B", "wrap unwrap"}, {"K1", "N", "wrap unwrap"}, {"K2", "B", "encrypt decrypt"},
		{"47", "N", "encrypt decrypt generate verify sign derive"}, {"47", "T", "decrypt sign"}, {"47", "B", "encrypt decrypt"},
		// Of does not check the header.
		{"K0", "T", "sign unwrap"}, {"K1", "C", "generate verify"}, {"K0", "X", "derive"}, {"", "B", "encrypt decrypt"}, {"XX", "N", ""}, {"", "N", ""}, {"D0", "", ""}, {"D0", "A", ""}, {"D0", "ED", ""}, {"D0", "e", ""}, {"D0", "NN", ""}, {"D0", "\u00e9", ""}, {"D0", "\xff", ""}, {"M6", "GV", ""},
	} {
		if got := strings.Join(Of(api.Head{Usage: c.usage, Mode: c.mode}), " "); got != c.want {
			t.Errorf("Of(%s, %s) = %q", c.usage, c.mode, got)
		}
	}
	Ops()[0] = "changed"
	if Ops()[0] != "encrypt" {
		t.Error("Ops shares its list")
	}
}

// P41.2, P41.4
func TestMay(t *testing.T) {
	bare := api.Record{Kind: 1}
	for _, op := range append(Ops(), "", "Encrypt", "export", "wrap ") {
		want := api.OK
		if !slices.Contains(Ops(), op) {
			want = api.ErrArg
		}
		if err := May(bare, op); err != want {
			t.Errorf("May(%q) = %d", op, err)
		}
		for _, usage := range append(table.Usages("A"), "47", "S0", "M7", "XX") {
			for _, mode := range table.Modes(usage) + "Z" {
				h := api.Head{Usage: usage, Mode: string(mode)}
				want := want
				if want == api.OK && !slices.Contains(Of(h), op) {
					want = api.ErrUsage
				}
				if err := May(api.Record{Head: h}, op); err != want {
					t.Errorf("May(%v, %q) = %d", h, op, err)
				}
			}
		}
	}
	if May(api.Record{Head: api.Head{Version: "00"}}, "encrypt") != api.ErrUsage || May(api.Record{Head: api.Head{Version: "00"}}, "x") != api.ErrArg {
		t.Error("May without a mode")
	}
}

// P41.3, P41.4
func TestExportAndLeaves(t *testing.T) {
	for _, c := range []struct {
		r    api.Record
		want string
	}{
		{api.Record{}, ""}, {api.Record{Head: api.Head{Usage: "K0", Export: "E"}}, "E"}, {api.Record{Head: api.Head{Usage: "K0"}, Attrs: []api.Attr{{Tag: 1, Value: "N"}, {Tag: 65535, Value: "K0B00N"}}}, ""}, {api.Record{Head: api.Head{Export: "N"}}, "N"}, {api.Record{Head: api.Head{Usage: "K0", Export: "S"}, Attrs: []api.Attr{{Tag: 1, Value: "N"}}}, "S"},
		{api.Record{Attrs: []api.Attr{{Tag: 65535, Value: "K0B00N"}}}, "N"}, {api.Record{Attrs: []api.Attr{{Tag: 1, Value: "E"}, {Tag: 65535, Value: "K0B00N"}}}, "N"}, {api.Record{Attrs: []api.Attr{{Tag: 1, Value: "E"}, {Tag: 65535, Value: "K0B00"}}}, "E"}, {api.Record{Attrs: []api.Attr{{Tag: 1, Value: "E"}, {Tag: 65535, Value: "K0B00NN"}}}, "E"}, {api.Record{Attrs: []api.Attr{{Tag: 65535, Value: "K0B00"}}}, ""},
		{api.Record{Attrs: []api.Attr{{Tag: 1, Value: "N"}}}, "N"}, {api.Record{Attrs: []api.Attr{{Tag: 1, Value: "several"}}}, "several"}, {api.Record{Attrs: []api.Attr{{Tag: 1, Value: ""}}}, ""}, {api.Record{Attrs: []api.Attr{{Tag: 2, Value: "N"}}}, ""}, {api.Record{Attrs: []api.Attr{{Tag: 65535, Value: "......"}}}, "."},
	} {
		if got := Export(c.r); got != c.want {
			t.Errorf("Export(%v) = %q", c.r, got)
		}
		for _, trusted := range []bool{false, true} {
			want := api.OK
			if c.want == "N" || c.want == "E" && !trusted {
				want = api.ErrUsage
			}
			if err := Leaves(c.r, trusted); err != want {
				t.Errorf("Leaves(%v, %t) = %d", c.r, trusted, err)
			}
		}
		if Leaves(c.r, false) == api.OK && Leaves(c.r, true) != api.OK {
			t.Errorf("%v leaves only to a place that is not trusted", c.r)
		}
	}
}
