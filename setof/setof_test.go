package setof

import (
	"math/rand"
	"reflect"
	"slices"
	"strings"
	"testing"
)

// less, as the chapter defines it.
func less(a, b string) bool {
	n := max(len(a), len(b))
	x, y := a+strings.Repeat("\x00", n-len(a)), b+strings.Repeat("\x00", n-len(b))
	for i := range n {
		if x[i] != y[i] {
			return x[i] < y[i]
		}
	}
	return len(a) < len(b)
}

func random(r *rand.Rand) string {
	s := ""
	for range r.Intn(5) {
		s += []string{"\x00", "\x00", "\x01", "a", "\xff"}[r.Intn(5)]
	}
	return s
}

// P21.1, P21.3
func TestLess(t *testing.T) {
	for _, c := range []struct {
		a, b string
		want bool
	}{{"a", "ab", true}, {"a\x00", "a", false}, {"a", "a\x00", true}, {"", "\x00", true}, {"", "", false}, {"a", "a", false}, {"b", "ab", false}, {"\x7f", "\x80", true}, {"\xff", "\xff\x01", true}, {"a\x00\x00", "a\x00", false}, {"a\x00b", "a\x01", true}} {
		if Less(c.a, c.b) != c.want {
			t.Errorf("Less(%q, %q)", c.a, c.b)
		}
	}
	r := rand.New(rand.NewSource(1))
	for range 20000 {
		a, b := random(r), random(r)
		if Less(a, b) != less(a, b) {
			t.Fatalf("Less(%q, %q)", a, b)
		}
		if a != b && Less(a, b) == Less(b, a) {
			t.Fatalf("%q and %q", a, b)
		}
	}
}

// P21.1, P21.3
func TestSortAndRises(t *testing.T) {
	in := []string{"b", "a\x00", "a", "", "ab", "a"}
	if got := Sort(in); !reflect.DeepEqual(got, []string{"", "a", "a", "a\x00", "ab", "b"}) {
		t.Errorf("Sort = %q", got)
	}
	if in[0] != "b" || in[3] != "" || len(Sort(nil)) != 0 {
		t.Error("Sort changes its argument")
	}
	for _, c := range []struct {
		l    []string
		want bool
	}{{nil, true}, {[]string{"x"}, true}, {[]string{"", "a", "a\x00", "ab"}, true}, {[]string{"a", "a"}, false}, {[]string{"a", "b", "a"}, false}, {[]string{"a\x00", "a"}, false}, {[]string{"b", "a", "c"}, false}} {
		if Rises(c.l) != c.want {
			t.Errorf("Rises(%q)", c.l)
		}
	}
	r := rand.New(rand.NewSource(2))
	for range 500 {
		var l []string
		for range r.Intn(12) {
			l = append(l, random(r))
		}
		sorted, want := Sort(l), slices.Clone(l)
		slices.SortFunc(want, func(a, b string) int {
			if a == b {
				return 0
			} else if less(a, b) {
				return -1
			}
			return 1
		})
		if !slices.Equal(sorted, want) || !slices.Equal(Sort(sorted), sorted) {
			t.Fatalf("Sort(%q) = %q", l, sorted)
		}
		if Rises(sorted) != (len(slices.Compact(want)) == len(l)) {
			t.Fatalf("Rises(%q)", sorted)
		}
	}
	one := []string{"b", "a"}
	two := Sort(one)
	two[0] = "x"
	if one[1] != "a" {
		t.Error("Sort shares its list")
	}
}

// P21.2
func TestPlace(t *testing.T) {
	l := []string{"a", "a\x00", "c", "e"}
	for _, c := range []struct {
		l     []string
		s     string
		n     int
		found bool
	}{{l, "", 0, false}, {l, "a", 0, true}, {l, "a\x00", 1, true}, {l, "b", 2, false}, {l, "c", 2, true}, {l, "e", 3, true}, {l, "f", 4, false}, {nil, "x", 0, false}, {[]string{"b", "a"}, "c", 0, false}, {[]string{"a", "a"}, "a", 0, false}} {
		if n, found := Place(c.l, c.s); n != c.n || found != c.found {
			t.Errorf("Place(%q, %q) = %d, %t", c.l, c.s, n, found)
		}
	}
}
