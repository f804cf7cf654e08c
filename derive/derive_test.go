package derive

import (
	"encoding/hex"
	"math"
	"strings"
	"testing"

	"claviger/api"
	"claviger/kdf"
)

// P35.1
func TestInput(t *testing.T) {
	for _, c := range []struct {
		purpose, n int
		want       string
	}{
		{0, 16, "00000000020080"}, {1, 16, "00010000020080"}, {0, 24, "000000000300c0"}, {1, 24, "000100000300c0"}, {0, 32, "00000000040100"}, {1, 32, "00010000040100"},
		{2, 16, ""}, {-1, 16, ""}, {0, 0, ""}, {0, 8, ""}, {1, 17, ""}, {0, 64, ""}, {math.MaxInt, 16, ""}, {math.MinInt, 16, ""}, {0, math.MaxInt, ""}, {0, math.MinInt, ""},
	} {
		if got := hex.EncodeToString([]byte(Input(c.purpose, c.n))); got != c.want {
			t.Errorf("Input(%d, %d) = %s", c.purpose, c.n, got)
		}
	}
}

// P35.2, P35.3
func TestKeys(t *testing.T) {
	for _, n := range []int{16, 24, 32} {
		kek := strings.Repeat("k", n)
		var want [2]string
		for purpose := range 2 {
			want[purpose], _ = kdf.Counter(kek, Input(purpose, n), n)
			if got, err := Key(kek, purpose); got != want[purpose] || err != api.OK || len(got) != n {
				t.Errorf("Key(%d bytes, %d) = %x, %d", n, purpose, got, err)
			}
		}
		enc, auth, err := Keys(kek)
		if enc != want[0] || auth != want[1] || err != api.OK || enc == auth {
			t.Errorf("Keys(%d bytes) = %x, %x, %d", n, enc, auth, err)
		}
		for _, purpose := range []int{2, -1, math.MaxInt} {
			if got, err := Key(kek, purpose); got != "" || err != api.ErrArg {
				t.Errorf("Key for %d: %d", purpose, err)
			}
		}
	}
	for _, n := range []int{0, 15, 17, 33} {
		kek := strings.Repeat("k", n)
		if got, err := Key(kek, 5); got != "" || err != api.ErrKey {
			t.Errorf("Key of %d bytes: %d", n, err)
		}
		if enc, auth, err := Keys(kek); enc != "" || auth != "" || err != api.ErrKey {
			t.Errorf("Keys of %d bytes: %d", n, err)
		}
	}
}
