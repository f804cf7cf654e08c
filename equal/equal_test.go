package equal

import (
	"strings"
	"testing"
)

var samples = []string{"", "a", "b", "ab", "abc", "abd", "xbc", "abcd", "\x00", "\x00\x00", strings.Repeat("q", 40), strings.Repeat("q", 39) + "r", "r" + strings.Repeat("q", 39), strings.Repeat("q", 41), strings.Repeat("q", 1000), strings.Repeat("q", 999) + "r"}

// P4.1, P4.3
func TestScan(t *testing.T) {
	for _, a := range samples {
		for _, b := range samples {
			same, n := Scan(a, b)
			if same != (a == b) || n != max(len(a), len(b)) {
				t.Errorf("Scan(%q, %q) = %t, %d", a, b, same, n)
			}
			back, m := Scan(b, a)
			if back != same || m != n || Unlike(a, b) != Unlike(b, a) || First(a, b) != First(b, a) || same != (Unlike(a, b) == 0) || same != (First(a, b) < 0) {
				t.Errorf("%q and %q: not symmetric", a, b)
			}
		}
	}
	for i := range 40 {
		for bit := range 8 {
			a := []byte(strings.Repeat("q", 40))
			a[i] ^= 1 << bit
			if same, n := Scan(string(a), strings.Repeat("q", 40)); same || n != 40 {
				t.Errorf("bit %d of byte %d", bit, i)
			}
		}
	}
	// Two differences that would cancel each other if they were added.
	if same, _ := Scan("a"+strings.Repeat("q", 15)+"a", "b"+strings.Repeat("q", 15)+"b"); same {
		t.Error("differences cancel")
	}
}

// P4.1
func TestNought(t *testing.T) {
	for _, s := range []string{"", "\x00", strings.Repeat("\x00", 1000)} {
		if all, n := Nought(s); !all || n != len(s) {
			t.Errorf("Nought(%q) = %t, %d", s, all, n)
		}
	}
	for i := range 40 {
		s := strings.Repeat("\x00", i) + "\x80" + strings.Repeat("\x00", 40-i)
		if all, n := Nought(s); all || n != 41 {
			t.Errorf("Nought(%q) = %t, %d", s, all, n)
		}
	}
}

// P4.2
func TestUnlikeAndFirst(t *testing.T) {
	for _, c := range []struct {
		a, b    string
		n, from int
	}{{"", "", 0, -1}, {"ab", "abcd", 2, 2}, {"abc", "abd", 1, 2}, {"abc", "xbz", 2, 0}, {"", "abc", 3, 0}, {"abc", "abc", 0, -1}, {"a\x00", "a", 1, 1}, {"xb", "abc", 2, 0}} {
		if Unlike(c.a, c.b) != c.n || First(c.a, c.b) != c.from {
			t.Errorf("%q and %q: %d, %d", c.a, c.b, Unlike(c.a, c.b), First(c.a, c.b))
		}
	}
}

// P4.2
func TestPick(t *testing.T) {
	for _, c := range []struct {
		yes        bool
		a, b, want string
	}{{true, "abc", "xyz", "abc"}, {false, "abc", "xyz", "xyz"}, {true, "abc", "xy", ""}, {false, "abc", "xy", ""}, {true, "", "", ""}, {true, "a", "", ""}, {false, "\x00\xff", "\xff\x00", "\xff\x00"}} {
		if got := Pick(c.yes, c.a, c.b); got != c.want {
			t.Errorf("Pick(%t, %q, %q) = %q", c.yes, c.a, c.b, got)
		}
	}
}
