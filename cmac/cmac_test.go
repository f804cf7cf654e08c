package cmac

import (
	stdaes "crypto/aes"
	"encoding/hex"
	"math"
	"math/big"
	"math/rand"
	"strings"
	"testing"

	"claviger/api"
)

func un(s string) string {
	b, err := hex.DecodeString(s)
	if err != nil {
		panic(err)
	}
	return string(b)
}

func random(r *rand.Rand, n int) string {
	b := make([]byte, n)
	r.Read(b)
	return string(b)
}

// double, with the numbers of the library.
func double(b string) string {
	n := new(big.Int).Lsh(new(big.Int).SetBytes([]byte(b)), 1)
	if n.Bit(128) == 1 {
		n.SetBit(n, 128, 0)
		n.Xor(n, big.NewInt(135))
	}
	return string(n.FillBytes(make([]byte, 16)))
}

// tag, with the cipher of the library.
func tag(key, s string) string {
	c, _ := stdaes.NewCipher([]byte(key))
	zero := make([]byte, 16)
	c.Encrypt(zero, zero)
	k := double(string(zero))
	if len(s) == 0 || len(s)%16 != 0 {
		s += "\x80"
		for len(s)%16 != 0 {
			s += "\x00"
		}
		k = double(k)
	}
	state := make([]byte, 16)
	for at := 0; at < len(s); at += 16 {
		for i := range 16 {
			state[i] ^= s[at+i]
			if at == len(s)-16 {
				state[i] ^= k[i]
			}
		}
		c.Encrypt(state, state)
	}
	return string(state)
}

const key = "2b7e151628aed2a6abf7158809cf4f3c"

// P11.1, P11.2: the examples of RFC 4493.
func TestStandard(t *testing.T) {
	a, b, err := Subkeys(un(key))
	if a != un("fbeed618357133667c85e08f7236a8de") || b != un("f7ddac306ae266ccf90bc11ee46d513b") || err != api.OK {
		t.Errorf("Subkeys = %x, %x, %d", a, b, err)
	}
	message := un("6bc1bee22e409f96e93d7e117393172aae2d8a571e03ac9c9eb76fac45af8e5130c81c46a35ce411e5fbc1191a0a52eff69f2445df4f9b17ad2b417be66c3710")
	for n, want := range map[int]string{0: "bb1d6929e95937287fa37d129b756746", 16: "070a16b46b4d4144f79bdd9dd04a287c", 40: "dfa66747de9ae63030ca32611497c827", 64: "51f0bebf7e3b9d92fc49741779363cfe"} {
		if got, err := Tag(un(key), message[:n]); got != un(want) || err != api.OK {
			t.Errorf("Tag of %d bytes = %x, %d", n, got, err)
		}
	}
}

// P11.1, P11.4
func TestDouble(t *testing.T) {
	for _, c := range [][2]string{
		{"00000000000000000000000000000001", "00000000000000000000000000000002"},
		{"80000000000000000000000000000000", "00000000000000000000000000000087"},
		{"ffffffffffffffffffffffffffffffff", "ffffffffffffffffffffffffffffff79"},
		{"00000000000000800000000000000080", "00000000000001000000000000000100"},
		{"00000000000000000000000000000000", "00000000000000000000000000000000"},
	} {
		if got := Double(un(c[0])); got != un(c[1]) {
			t.Errorf("Double(%s) = %x", c[0], got)
		}
	}
	for _, n := range []int{0, 1, 15, 17, 32} {
		if Double(strings.Repeat("x", n)) != "" {
			t.Errorf("Double of %d bytes", n)
		}
	}
	r := rand.New(rand.NewSource(1))
	for range 200 {
		b := random(r, 16)
		if Double(b) != double(b) {
			t.Errorf("Double(%x)", b)
		}
		for range 128 {
			b = Double(b)
		}
		if b == strings.Repeat("\x00", 16) {
			t.Error("doubled to 0")
		}
	}
	zero := strings.Repeat("\x00", 16)
	if Double(zero) != zero {
		t.Error("Double of 0")
	}
}

// P11.2, P11.3, P11.4
func TestTag(t *testing.T) {
	r := rand.New(rand.NewSource(2))
	for n := range 100 {
		key, s := random(r, 16+8*(n%3)), random(r, n)
		want := tag(key, s)
		if got, err := Tag(key, s); got != want || err != api.OK {
			t.Fatalf("Tag of %d bytes = %x", n, got)
		}
		if ok, err := Check(key, s, want); !ok || err != api.OK {
			t.Errorf("Check of %d bytes", n)
		}
		for i := range 16 {
			other := []byte(want)
			other[i] ^= 1 << (n % 8)
			if ok, err := Check(key, s, string(other)); ok || err != api.OK {
				t.Errorf("Check accepts another tag at %d", i)
			}
		}
		for _, other := range []string{"", want[:15], want + "\x00", want + want} {
			if ok, err := Check(key, s, other); ok || err != api.OK {
				t.Errorf("Check accepts %d bytes", len(other))
			}
		}
		if ok, _ := Check(key, s+"\x80", want); ok {
			t.Errorf("Check accepts the padding")
		}
	}
}

// P11.1, P11.2, P11.3
func TestErrors(t *testing.T) {
	for _, n := range []int{0, 1, 15, 17, 31, 33} {
		bad := strings.Repeat("k", n)
		if a, b, err := Subkeys(bad); a != "" || b != "" || err != api.ErrKey {
			t.Errorf("Subkeys with %d bytes", n)
		}
		if s, err := Tag(bad, "text"); s != "" || err != api.ErrKey {
			t.Errorf("Tag with %d bytes", n)
		}
		if ok, err := Check(bad, "text", ""); ok || err != api.ErrKey {
			t.Errorf("Check with %d bytes", n)
		}
	}
}

// P11.2
func TestBlocks(t *testing.T) {
	for n, want := range map[int]int{-1: 0, math.MinInt: 0, 0: 1, 1: 1, 15: 1, 16: 1, 17: 2, 32: 2, 33: 3, 160: 10, math.MaxInt: math.MaxInt/16 + 1} {
		if Blocks(n) != want {
			t.Errorf("Blocks(%d) = %d", n, Blocks(n))
		}
	}
}
