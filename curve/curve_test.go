package curve

import (
	"crypto/elliptic"
	"encoding/hex"
	"math"
	"math/big"
	"reflect"
	"slices"
	"strings"
	"testing"
)

var want = []struct {
	name  string
	width int
	arcs  []int
	order *big.Int
}{
	{"P-224", 28, []int{1, 3, 132, 0, 33}, elliptic.P224().Params().N},
	{"P-256", 32, []int{1, 2, 840, 10045, 3, 1, 7}, elliptic.P256().Params().N},
	{"P-384", 48, []int{1, 3, 132, 0, 34}, elliptic.P384().Params().N},
	{"P-521", 66, []int{1, 3, 132, 0, 35}, elliptic.P521().Params().N},
}

// P22.1, P22.3
func TestTable(t *testing.T) {
	for i, w := range want {
		no := i + 1
		if Name(no) != w.name || Width(no) != w.width || !reflect.DeepEqual(Arcs(no), w.arcs) || Order(no) != string(w.order.FillBytes(make([]byte, w.width))) {
			t.Errorf("curve %d: %s, %d, %v, %x", no, Name(no), Width(no), Arcs(no), Order(no))
		}
		if got, ok := By(w.arcs); got != no || !ok {
			t.Errorf("By(%v) = %d, %t", w.arcs, got, ok)
		}
		if got, ok := Of(w.width); got != no || !ok {
			t.Errorf("Of(%d) = %d, %t", w.width, got, ok)
		}
	}
	for _, no := range []int{0, -1, 5, math.MinInt, math.MaxInt} {
		if Name(no) != "" || Width(no) != 0 || len(Arcs(no)) != 0 || Order(no) != "" {
			t.Errorf("curve %d", no)
		}
	}
	arcs := Arcs(1)
	arcs[0] = 7
	if Arcs(1)[0] != 1 {
		t.Error("Arcs shares its list")
	}
}

// P22.1
func TestNone(t *testing.T) {
	for _, arcs := range [][]int{nil, {}, {1}, {1, 3, 132, 0}, {1, 3, 132, 0, 33, 1}, {1, 3, 132, 0, 36}, {1, 2, 840, 10045, 2, 1}, {9, 9}} {
		if no, ok := By(arcs); no != 0 || ok {
			t.Errorf("By(%v) = %d", arcs, no)
		}
	}
	for _, width := range []int{0, -1, 16, 27, 29, 64, 65, 67, math.MaxInt} {
		if no, ok := Of(width); no != 0 || ok {
			t.Errorf("Of(%d) = %d", width, no)
		}
	}
}

// P22.2, P22.3
func TestScalar(t *testing.T) {
	for i, w := range want {
		no := i + 1
		bytes := func(n *big.Int) string { return string(n.FillBytes(make([]byte, w.width))) }
		one := big.NewInt(1)
		for _, s := range []string{bytes(one), bytes(new(big.Int).Sub(w.order, one)), bytes(new(big.Int).Rsh(w.order, 1)), bytes(big.NewInt(256))} {
			if !Scalar(no, s) {
				t.Errorf("Scalar(%d, %x)", no, s)
			}
			for _, other := range []string{s[1:], "\x00" + s, s + "\x00", ""} {
				if Scalar(no, other) {
					t.Errorf("Scalar(%d) of %d bytes", no, len(other))
				}
			}
			for _, other := range []int{0, 5, -1, math.MaxInt} {
				if Scalar(other, s) {
					t.Errorf("Scalar(%d)", other)
				}
			}
		}
		for _, s := range []string{bytes(new(big.Int)), bytes(w.order), bytes(new(big.Int).Add(w.order, one)), strings.Repeat("\xff", w.width)} {
			if Scalar(no, s) {
				t.Errorf("Scalar(%d, %x)", no, s)
			}
		}
	}
	if Scalar(0, "") || Scalar(9, "") {
		t.Error("a scalar without a curve")
	}
	if b, _ := hex.DecodeString("01ff"); !slices.Equal(b, []byte(Order(4)[:2])) {
		t.Error("the order of P-521")
	}
}
