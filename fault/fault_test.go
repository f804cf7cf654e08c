package fault

import (
	"math"
	"slices"
	"strings"
	"testing"

	"claviger/api"
)

var wanted = strings.Split("ok argument key empty size form depth sum kind length value attributes header pads usage none twice full", " ")

var unknown = []api.Errno{-1, 18, 100, math.MinInt, math.MaxInt}

// P40.1, P40.3
func TestNames(t *testing.T) {
	byClass := map[int]string{0: "ok", 1: "argument key kind pads usage", 2: "length value attributes header", 3: "empty size form depth sum", 4: "none twice full"}
	for i, name := range wanted {
		e := api.Errno(i)
		if Name(e) != name {
			t.Errorf("Name(%d) = %q", e, Name(e))
		}
		if got, ok := By(name); got != e || !ok {
			t.Errorf("By(%q) = %d, %t", name, got, ok)
		}
		if !slices.Contains(strings.Split(byClass[Class(e)], " "), name) {
			t.Errorf("Class(%d) = %d", e, Class(e))
		}
	}
	for _, e := range unknown {
		if Name(e) != "" || Class(e) != -1 {
			t.Errorf("%d has a name", e)
		}
	}
	for _, name := range []string{"", "OK", "sum ", "head"} {
		if e, ok := By(name); e != api.OK || ok {
			t.Errorf("By(%q) = %d", name, e)
		}
	}
	if Name(api.ErrSum) != "sum" || Class(api.ErrHead) != 2 || Name(api.ErrFull) != "full" {
		t.Error("examples")
	}
	all := All()
	if len(all) != 18 || !slices.IsSorted(all) || all[0] != api.OK || all[17] != api.ErrFull {
		t.Errorf("All = %d", all)
	}
	all[0] = 5
	if All()[0] != api.OK {
		t.Error("All shares its list")
	}
}

// P40.2
func TestFirstAndCount(t *testing.T) {
	for _, c := range []struct {
		l     []api.Errno
		first api.Errno
		count complex128
	}{
		{nil, 0, 0}, {[]api.Errno{0, 0}, 0, 2}, {[]api.Errno{0, 7, 5}, 7, 1 + 2i}, {[]api.Errno{-1, 7, 0}, -1, 1 + 1i}, {[]api.Errno{0, 99, 18}, 99, 1}, {[]api.Errno{17, 1}, 17, 2i}, {unknown, -1, 0},
	} {
		if got := First(c.l...); got != c.first {
			t.Errorf("First(%d) = %d", c.l, got)
		}
		if got := Count(c.l); got != c.count {
			t.Errorf("Count(%d) = %v", c.l, got)
		}
	}
}

// P40.2
func TestTold(t *testing.T) {
	if !Told(api.OK, true) || Told(api.OK, false) {
		t.Error("Told of OK")
	}
	for e := api.Errno(1); e < 18; e++ {
		if Told(e, true) || !Told(e, false) {
			t.Errorf("Told of %d", e)
		}
	}
	for _, e := range unknown {
		if Told(e, true) || Told(e, false) {
			t.Errorf("Told of %d", e)
		}
	}
}
