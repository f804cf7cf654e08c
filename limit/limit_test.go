package limit

import (
	"math"
	"strings"
	"testing"

	"claviger/api"
	"claviger/frame"
)

// P42.1
func TestFitsAndMost(t *testing.T) {
	for n := -20; n < 70000; n++ {
		wrapped, keyed := n >= 16 && n <= 65544 && n%8 == 0, n >= 80 && n <= 9999
		if Fits(api.Wrapped, n) != wrapped || Fits(api.Keyed, n) != keyed || Fits(0, n) || Fits(3, n) || Fits(-1, n) {
			t.Fatalf("Fits of %d", n)
		}
		most := [2]int{}
		if wrapped {
			most[0] = 6 * n / 8
		}
		if keyed {
			most[1] = n/8 + 16
		}
		if Most(api.Wrapped, n) != most[0] || Most(api.Keyed, n) != most[1] || Most(0, n) != 0 || Most(3, n) != 0 {
			t.Fatalf("Most of %d", n)
		}
	}
	for _, n := range []int{math.MinInt, math.MaxInt, math.MaxInt - 7} {
		for format := -1; format < 4; format++ {
			if Fits(format, n) || Most(format, n) != 0 {
				t.Errorf("%d bytes", n)
			}
		}
	}
}

// P42.2, P42.3
func TestCost(t *testing.T) {
	kek := strings.Repeat("k", 16)
	for _, c := range []struct {
		n    int
		want complex128
	}{{16, 1 + 16i}, {24, 12 + 24i}, {48, 30 + 48i}, {65544, 49152 + 65544i}, {0, 0}, {8, 0}, {17, 0}, {65552, 0}} {
		for _, n := range []int{16, 24, 32} {
			if got := Cost(strings.Repeat("k", n), api.Wrapped, strings.Repeat("x", c.n)); got != c.want {
				t.Errorf("Cost of %d bytes = %v", c.n, got)
			}
		}
	}
	b := "D0144K0AB00E0000" + strings.Repeat("0", 128)
	for n, want := range map[int]complex128{16: 4 + 1 + 3 + 4 + 144i, 24: 4 + 1 + 3 + 8 + 144i, 32: 4 + 1 + 3 + 8 + 144i, 0: 0, 15: 0, 17: 0, 33: 0} {
		if got := Cost(strings.Repeat("k", n), api.Keyed, b); got != want {
			t.Errorf("Cost of a block under %d bytes = %v", n, got)
		}
	}
	if Cost("", api.Wrapped, strings.Repeat("x", 16)) != 0 || Cost(kek, 0, b) != 0 || Cost(kek, 3, b) != 0 || Cost(kek, api.Keyed, "") != 0 || Cost(kek, api.Keyed, b[:79]) != 0 || Cost(kek, api.Keyed, strings.Repeat("x", 10000)) != 0 {
		t.Error("Cost without a blob")
	}
	if got := Cost(kek, api.Keyed, strings.Repeat("x", 80)); got != 80i {
		t.Errorf("Cost of no block = %v", got)
	}
	if got := Cost(kek, api.Wrapped, b); got != 6*17+144i {
		t.Errorf("Cost of a block as a wrapped blob = %v", got)
	}
	for n := 16; n <= 65544; n += 8 * 37 {
		if s := strings.Repeat("x", n); real(Cost(kek, api.Wrapped, s)) > float64(Most(api.Wrapped, n)) {
			t.Errorf("%d bytes cost more than Most", n)
		}
	}
	for n := 16; n <= 4096; n += 16 {
		for _, l := range [][]api.Attr{nil, {{Tag: 5, Value: strings.Repeat("x", n%256)}}} {
			top, err := frame.Top("A", api.Head{Usage: "K0", Mode: "B", Version: "00", Export: "E"}, l, n)
			b := frame.Join(top, strings.Repeat("c", n), strings.Repeat("t", 16))
			if got := Cost(strings.Repeat("k", 32), api.Keyed, b); err != api.OK || real(got) > float64(Most(api.Keyed, len(b))) || real(got) == 0 {
				t.Errorf("%d bytes cost %v", len(b), got)
			}
		}
	}
}

// P42.2
func TestTotal(t *testing.T) {
	if Total(nil) != 0 || Total([]complex128{1 + 16i}) != 1+16i || Total([]complex128{1 + 16i, 0, 12 + 24i, -3 - 1i}) != 10+39i {
		t.Error("Total")
	}
	if got := Total([]complex128{complex(math.Copysign(0, -1), math.Copysign(0, -1))}); math.Signbit(real(got)) || math.Signbit(imag(got)) {
		t.Error("Total is -0")
	}
}
