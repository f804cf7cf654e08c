package span

import (
	"math"
	"testing"

	"claviger/api"
)

var negZero = math.Copysign(0, -1)

func plusZero(x complex128) bool {
	return !(real(x) == 0 && math.Signbit(real(x))) && !(imag(x) == 0 && math.Signbit(imag(x)))
}

var invalid = []complex128{
	complex(-1, 2), complex(3, 2), complex(0.5, 2), complex(0, 2.5), complex(0, api.MaxBlob+1), complex(api.MaxBlob+1, api.MaxBlob+1),
	complex(math.NaN(), 2), complex(0, math.NaN()), complex(math.Inf(-1), 2), complex(0, math.Inf(1)), complex(math.Inf(1), math.Inf(1)),
	complex(0, 1e300), complex(-1e300, 0), complex(0, math.SmallestNonzeroFloat64), complex(1, 0),
}

var valid = []complex128{0, complex(2, 5), complex(0, api.MaxBlob), complex(api.MaxBlob, api.MaxBlob), complex(7, 7), complex(negZero, 3), complex(0, negZero), complex(negZero, negZero)}

// P3.1
func TestMayAndParts(t *testing.T) {
	for _, x := range invalid {
		if May(x) || From(x) != 0 || To(x) != 0 {
			t.Errorf("%v is a span", x)
		}
	}
	for _, x := range valid {
		if !May(x) || From(x) != int(real(x)) || To(x) != int(imag(x)) {
			t.Errorf("%v is no span", x)
		}
	}
}

// P3.1
func TestOf(t *testing.T) {
	for _, c := range []struct {
		from, to int
		want     complex128
	}{
		{2, 5, 2 + 5i}, {0, 0, 0}, {4, 4, 4 + 4i}, {0, api.MaxBlob, complex(0, api.MaxBlob)}, {api.MaxBlob, api.MaxBlob, complex(api.MaxBlob, api.MaxBlob)},
		{5, 2, 0}, {-1, 2, 0}, {0, api.MaxBlob + 1, 0}, {math.MinInt, math.MaxInt, 0}, {math.MaxInt, math.MaxInt, 0}, {-3, -2, 0},
	} {
		if got := Of(c.from, c.to); got != c.want || !plusZero(got) {
			t.Errorf("Of(%d, %d) = %v", c.from, c.to, got)
		}
	}
}

// P3.2
func TestCut(t *testing.T) {
	for _, c := range []struct {
		x    complex128
		want string
	}{{2 + 5i, "cde"}, {6i, "abcdef"}, {complex(negZero, 1), "a"}, {6 + 6i, ""}, {3 + 3i, ""}, {2 + 7i, ""}, {7 + 7i, ""}, {5 + 2i, ""}} {
		if got := Cut("abcdef", c.x); got != c.want {
			t.Errorf("Cut by %v = %q", c.x, got)
		}
	}
	for _, x := range invalid {
		if Cut("abcdef", x) != "" {
			t.Errorf("Cut by %v", x)
		}
	}
}

// P3.2
func TestShift(t *testing.T) {
	for _, c := range []struct {
		x    complex128
		n    int
		want complex128
	}{
		{2 + 5i, 3, 5 + 8i}, {2 + 5i, -2, 3i}, {2 + 5i, -3, 0}, {2 + 5i, 0, 2 + 5i}, {2 + 5i, api.MaxBlob - 5, complex(api.MaxBlob-3, api.MaxBlob)}, {2 + 5i, api.MaxBlob - 4, 0},
		{2 + 5i, math.MaxInt, 0}, {2 + 5i, math.MinInt, 0}, {complex(negZero, negZero), 0, 0}, {complex(negZero, 3), 0, 3i},
	} {
		if got := Shift(c.x, c.n); got != c.want || !plusZero(got) {
			t.Errorf("Shift(%v, %d) = %v", c.x, c.n, got)
		}
	}
	for _, x := range invalid {
		if got := Shift(x, 1); got != 0 {
			t.Errorf("Shift(%v, 1) = %v", x, got)
		}
	}
	if Shift(complex(-1, 2), 1) != 0 {
		t.Error("an invalid range was shifted into a valid one")
	}
}

// P3.3
func TestInsideAndApart(t *testing.T) {
	for _, c := range []struct {
		x, y          complex128
		inside, apart bool
	}{
		{2 + 3i, 1 + 4i, true, false}, {1 + 4i, 1 + 4i, true, false}, {1 + 4i, 2 + 3i, false, false}, {1 + 3i, 2 + 4i, false, false},
		{1 + 2i, 2 + 4i, false, true}, {2 + 4i, 1 + 2i, false, true}, {1 + 2i, 5 + 6i, false, true}, {3 + 3i, 3 + 5i, true, true}, {3 + 3i, 3 + 3i, true, true}, {4 + 4i, 3 + 5i, true, false},
		{complex(negZero, 1), 2i, true, false},
	} {
		if Inside(c.x, c.y) != c.inside || Apart(c.x, c.y) != c.apart {
			t.Errorf("%v and %v: %t, %t", c.x, c.y, Inside(c.x, c.y), Apart(c.x, c.y))
		}
	}
	for _, x := range invalid {
		if Inside(x, 9i) || Inside(2+3i, x) || Apart(x, 50+60i) || Apart(50+60i, x) {
			t.Errorf("%v is treated as a span", x)
		}
	}
}

// P3.3
func TestCount(t *testing.T) {
	if Count([]complex128{2 + 5i, 1i}) != 2+4i || Count(nil) != 0 || Count([]complex128{4 + 4i}) != 1 {
		t.Error("Count")
	}
	if Count(invalid) != 0 || Count(append([]complex128{3 + 7i}, invalid...)) != 1+4i {
		t.Error("Count of invalid ranges")
	}
	if got := Count([]complex128{complex(0, negZero)}); got != 1 || !plusZero(got) {
		t.Error("Count of -0", got)
	}
	if got := Count(invalid); !plusZero(got) {
		t.Error("-0", got)
	}
}

// P3.4
func TestConsequences(t *testing.T) {
	s := "abcdefghij"
	for from := range 11 {
		for to := from; to < 11; to++ {
			x := Of(from, to)
			if len(Cut(s, x)) != to-from {
				t.Errorf("length of %v", x)
			}
			for n := -11; n < 12; n++ {
				if y := Shift(x, n); from+n >= 0 && Shift(y, -n) != x {
					t.Errorf("%v shifted by %d", x, n)
				}
			}
			for a := range 11 {
				for b := a + 1; b < 11; b++ {
					y := Of(a, b)
					if to > from && Apart(x, y) && (Inside(x, y) || Inside(y, x)) {
						t.Errorf("%v and %v", x, y)
					}
				}
			}
		}
	}
}
