package rewrap

import (
	"reflect"
	"strings"
	"testing"

	"claviger/api"
	"claviger/kind"
	"claviger/record"
	"claviger/service"
	"claviger/table"
)

func headed(k int, export string, l ...api.Attr) api.Record {
	usage := table.Usages(kind.Letter(k))[0]
	return api.Record{Kind: k, Key: "\x00" + strings.Repeat("\x01", kind.Size(k)-1), Attrs: l, Head: api.Head{Usage: usage, Mode: table.Modes(usage)[:1], Version: "c1", Export: export}}
}

func bare(k int, l ...api.Attr) api.Record {
	r := headed(k, "E", l...)
	r.Head = api.Head{}
	return r
}

func many(n int) []api.Attr {
	var l []api.Attr
	for i := range n {
		l = append(l, api.Attr{Tag: i + 1})
	}
	return l
}

// P44.1, P44.3
func TestDownAndUp(t *testing.T) {
	plain := api.Record{Kind: 1, Key: strings.Repeat("k", 16), Head: api.Head{Usage: "K0", Mode: "B", Version: "00", Export: "E"}}
	down, err := Down(plain)
	if want := (api.Record{Kind: 1, Key: plain.Key, Attrs: []api.Attr{{Tag: 65535, Value: "K0B00E"}}}); !reflect.DeepEqual(down, want) || err != api.OK {
		t.Errorf("Down = %v, %d", down, err)
	}
	for k := 1; k <= 11; k++ {
		for _, l := range [][]api.Attr{nil, {{Tag: 5, Value: "x"}}, many(31)} {
			r := headed(k, "S", l...)
			down, err := Down(r)
			if !record.Bare(down) || len(down.Attrs) != len(l)+1 || down.Attrs[len(l)] != (api.Attr{Tag: 65535, Value: r.Head.Usage + r.Head.Mode + "c1S"}) || err != api.OK || !record.Same(r, headed(k, "S", l...)) {
				t.Errorf("Down of kind %d = %v, %d", k, down, err)
			}
			up, err := Up(down)
			if !record.Same(up, r) || err != api.OK {
				t.Errorf("Up of kind %d = %v, %d", k, up, err)
			}
			if again, err := Down(up); !record.Same(again, down) || err != api.OK {
				t.Errorf("Down of Up of kind %d", k)
			}
		}
	}
}

// P44.1
func TestDownErrors(t *testing.T) {
	odd := headed(1, "S", api.Attr{Tag: 65535})
	odd.Head.Usage = "M7"
	for _, c := range []struct {
		r    api.Record
		want api.Errno
	}{
		{api.Record{}, api.ErrKind}, {api.Record{Kind: 1}, api.ErrLength}, {bare(1, api.Attr{}), api.ErrAttr}, {headed(1, "S", api.Attr{}), api.ErrAttr}, {bare(1), api.ErrHead}, {bare(1, api.Attr{Tag: 65535}), api.ErrHead}, {odd, api.ErrHead}, {headed(1, "X"), api.ErrHead}, {headed(1, "S", api.Attr{Tag: 65535}), api.ErrTwice}, {headed(1, "S", many(32)...), api.ErrAttr}, {headed(1, "S", append(many(31), api.Attr{Tag: 65535})...), api.ErrTwice},
	} {
		if r, err := Down(c.r); !reflect.DeepEqual(r, api.Record{}) || err != c.want {
			t.Errorf("Down(%v) = %v, %d, want %d", c.r, r, err, c.want)
		}
	}
}

// P44.1
func TestUpErrors(t *testing.T) {
	with := func(value string) api.Record { return bare(1, api.Attr{Tag: 65535, Value: value}) }
	for _, c := range []struct {
		r    api.Record
		want api.Errno
	}{
		{api.Record{}, api.ErrKind}, {api.Record{Kind: 1, Key: "x"}, api.ErrLength}, {headed(1, "S", api.Attr{}), api.ErrAttr}, {headed(1, "S"), api.ErrHead}, {headed(1, "S", api.Attr{Tag: 65535, Value: "K0B00E"}), api.ErrHead}, {bare(1), api.ErrNone}, {bare(1, api.Attr{Tag: 1, Value: "K0B00E"}), api.ErrNone},
		{with(""), api.ErrHead}, {with("K0B00"), api.ErrHead}, {with("K0B00EE"), api.ErrHead}, {with("M7C00E"), api.ErrHead}, {with("K0C00E"), api.ErrHead}, {with("K0B01E"), api.ErrHead}, {with("K0B00X"), api.ErrHead}, {with("K0B00E"), api.OK}, {with("47Xc9N"), api.OK},
	} {
		r, err := Up(c.r)
		if err != c.want || err != api.OK && !reflect.DeepEqual(r, api.Record{}) || err == api.OK && record.Bare(r) {
			t.Errorf("Up(%v) = %v, %d, want %d", c.r, r, err, c.want)
		}
	}
}

// P44.2, P44.3
func TestRewrap(t *testing.T) {
	one, two := strings.Repeat("k", 16), strings.Repeat("l", 32)
	for k := 1; k <= 11; k++ {
		r := headed(k, "S", api.Attr{Tag: 5, Value: "x"})
		pads, other := strings.Repeat("p", service.Pads(api.Keyed, r)), strings.Repeat("q", service.Pads(api.Keyed, r))
		b, _ := service.Export(one, api.Keyed, r, pads)
		down, _ := Down(r)
		want, _ := service.Export(two, api.Wrapped, down, "")
		got, err := Rewrap(one, api.Keyed, b, two, api.Wrapped, "", false)
		if got != want || err != api.OK {
			t.Errorf("Rewrap of kind %d: %d", k, err)
		}
		if back, err := Rewrap(two, api.Wrapped, got, one, api.Keyed, pads, false); back != b || err != api.OK {
			t.Errorf("Rewrap of kind %d back: %d", k, err)
		}
		want, _ = service.Export(two, api.Keyed, r, other)
		got, err = Rewrap(one, api.Keyed, b, two, api.Keyed, other, false)
		if got != want || err != api.OK {
			t.Errorf("Rewrap of kind %d under another key: %d", k, err)
		}
		if back, err := Rewrap(two, api.Keyed, got, one, api.Keyed, pads, false); back != b || err != api.OK {
			t.Errorf("Rewrap of kind %d back: %d", k, err)
		}
		plain, _ := service.Export(one, api.Wrapped, bare(k), "")
		want, _ = service.Export(two, api.Wrapped, bare(k), "")
		if got, err := Rewrap(one, api.Wrapped, plain, two, api.Wrapped, "", false); got != want || err != api.OK {
			t.Errorf("Rewrap of a bare kind %d: %d", k, err)
		}
	}
}

// P44.2
func TestRewrapErrors(t *testing.T) {
	kek, pads := strings.Repeat("k", 16), strings.Repeat("p", 30)
	keyed := func(export string, l ...api.Attr) string {
		b, err := service.Export(kek, api.Keyed, headed(1, export, l...), pads)
		if err != api.OK {
			t.Fatal(err)
		}
		return b
	}
	wrapped := func(l ...api.Attr) string {
		b, err := service.Export(kek, api.Wrapped, bare(1, l...), "")
		if err != api.OK {
			t.Fatal(err)
		}
		return b
	}
	full := api.Attr{Tag: 65535, Value: "K0B00S"}
	for _, c := range []struct {
		kek    string
		format int
		b, to  string
		into   int
		pads   string
		trust  bool
		want   api.Errno
	}{
		{kek, 0, "", kek, 1, "", true, api.ErrKind}, {"", 1, "", "", 1, "", true, api.ErrKey}, {kek, 1, "", "", 1, "", true, api.ErrEmpty}, {kek, 1, keyed("S"), kek, 1, "", true, api.ErrSum}, {kek, 2, wrapped(), kek, 1, "", true, api.ErrForm},
		{kek, 2, keyed("N"), "", 9, "", true, api.ErrUsage}, {kek, 2, keyed("N"), kek, 1, "", false, api.ErrUsage}, {kek, 2, keyed("E"), kek, 1, "", false, api.ErrUsage}, {kek, 2, keyed("E"), kek, 1, "", true, api.OK}, {kek, 2, keyed("S"), kek, 1, "", false, api.OK}, {kek, 1, wrapped(api.Attr{Tag: 1, Value: "N"}), kek, 1, "", true, api.ErrUsage}, {kek, 1, wrapped(api.Attr{Tag: 65535, Value: "K0B00E"}), kek, 2, pads, false, api.ErrUsage}, {kek, 1, wrapped(api.Attr{Tag: 65535, Value: "K0B00E"}), kek, 2, pads, true, api.OK},
		{kek, 2, keyed("S", full), "", 1, "", true, api.ErrTwice}, {kek, 2, keyed("S", many(32)...), kek, 1, "x", true, api.ErrAttr}, {kek, 1, wrapped(), "", 2, "", true, api.ErrNone}, {kek, 1, wrapped(api.Attr{Tag: 65535, Value: "M7C00S"}), kek, 2, pads, true, api.ErrHead},
		{kek, 2, keyed("S"), kek, 0, "", true, api.ErrKind}, {kek, 2, keyed("S"), "", 3, "", true, api.ErrKind}, {kek, 2, keyed("S"), "short", 1, "", true, api.ErrKey}, {kek, 2, keyed("S"), kek, 1, "x", true, api.ErrPad}, {kek, 2, keyed("S"), kek, 2, "", true, api.ErrPad}, {kek, 1, wrapped(full), kek, 2, "x", true, api.ErrPad}, {kek, 1, wrapped(full), kek, 2, pads, true, api.OK}, {kek, 1, wrapped(), kek, 1, "x", true, api.ErrPad},
	} {
		b, err := Rewrap(c.kek, c.format, c.b, c.to, c.into, c.pads, c.trust)
		if err != c.want || (err == api.OK) == (b == "") {
			t.Errorf("Rewrap(%d, %.20q, %d, %t) = %d, want %d", c.format, c.b, c.into, c.trust, err, c.want)
		}
	}
}
