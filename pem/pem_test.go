package pem

import (
	"encoding/base64"
	stdpem "encoding/pem"
	"math/rand"
	"strings"
	"testing"

	"claviger/api"
)

func random(r *rand.Rand, n int) string {
	b := make([]byte, n)
	r.Read(b)
	return string(b)
}

// P46.1, P46.4
func TestBase(t *testing.T) {
	for s, want := range map[string]string{"": "", "\xff": "/w==", "f": "Zg==", "fo": "Zm8=", "foo": "Zm9v", "foob": "Zm9vYg==", "fooba": "Zm9vYmE=", "foobar": "Zm9vYmFy", "\xfb\xef\xbe": "++++", "\x00": "AA=="} {
		if got := Base(s); got != want {
			t.Errorf("Base(%q) = %q", s, got)
		}
	}
	r := rand.New(rand.NewSource(1))
	for n := range 300 {
		s := random(r, n)
		want := base64.StdEncoding.EncodeToString([]byte(s))
		if Base(s) != want {
			t.Fatalf("Base(%x)", s)
		}
		if got, ok := Unbase(want); got != s || !ok {
			t.Fatalf("Unbase(%q) = %x, %t", want, got, ok)
		}
	}
}

// P46.1
func TestUnbaseOther(t *testing.T) {
	for _, s := range []string{"Z", "Zg", "Zg=", "Zg===", "Zg====", "=", "==", "====", "Zh==", "Zm9=", "Zm8", "Zm9v=", "Zm9v====", "Z===", "Zg==Zg==", "Zm=v", "Zm9v\n", " Zm9v", "Zm9-", "Zm9_", "/x==", "\xff\xff\xff\xff", "Zg==\n", "=Zg="} {
		if got, ok := Unbase(s); got != "" || ok {
			t.Errorf("Unbase(%q) = %x, %t", s, got, ok)
		}
	}
	strict := base64.StdEncoding.Strict()
	r := rand.New(rand.NewSource(2))
	for range 50000 {
		b := make([]byte, r.Intn(10))
		for i := range b {
			b[i] = "ABQgwzZ09+/===-"[r.Intn(15)]
		}
		want, err := strict.DecodeString(string(b))
		if got, ok := Unbase(string(b)); ok != (err == nil) || ok && got != string(want) {
			t.Fatalf("Unbase(%q) = %x, %t", b, got, ok)
		}
	}
}

// P46.2, P46.3, P46.4
func TestArmor(t *testing.T) {
	if got, err := Armor("A KEY 1", "\xff"); got != "-----BEGIN A KEY 1-----\n/w==\n-----END A KEY 1-----\n" || err != api.OK {
		t.Errorf("Armor = %q, %d", got, err)
	}
	r := rand.New(rand.NewSource(3))
	sizes := []int{api.MaxBlob - 1, api.MaxBlob}
	for n := 1; n < 200; n++ {
		sizes = append(sizes, n)
	}
	for _, n := range sizes {
		b := random(r, n)
		name := []string{"X", "PRIVATE KEY", strings.Repeat("A", 40), "0  9Z"}[n%4]
		want := string(stdpem.EncodeToMemory(&stdpem.Block{Type: name, Bytes: []byte(b)}))
		got, err := Armor(name, b)
		if got != want || err != api.OK {
			t.Fatalf("Armor of %d bytes: %d", n, err)
		}
		if gotName, gotB, err := Unarmor(got); gotName != name || gotB != b || err != api.OK {
			t.Fatalf("Unarmor of %d bytes: %d", n, err)
		}
	}
}

// P46.2
func TestArmorErrors(t *testing.T) {
	for _, c := range []struct {
		name, b string
		want    api.Errno
	}{
		{"", "", api.ErrArg}, {strings.Repeat("A", 41), "x", api.ErrArg}, {" A", "x", api.ErrArg}, {"A ", "x", api.ErrArg}, {" ", "x", api.ErrArg}, {"a", "x", api.ErrArg}, {"A-B", "", api.ErrArg}, {"A\n", "x", api.ErrArg}, {"\u00c4", "x", api.ErrArg}, {"A\xff", "x", api.ErrArg}, {"A\tB", "x", api.ErrArg},
		{"A", "", api.ErrEmpty}, {"A", strings.Repeat("x", api.MaxBlob+1), api.ErrSize}, {"a", strings.Repeat("x", api.MaxBlob+1), api.ErrArg},
	} {
		if got, err := Armor(c.name, c.b); got != "" || err != c.want {
			t.Errorf("Armor(%q): %d, want %d", c.name, err, c.want)
		}
	}
}

// P46.3
func TestUnarmorOther(t *testing.T) {
	line := strings.Repeat("A", 64)
	big, _ := Armor("A", strings.Repeat("x", api.MaxBlob))
	for _, s := range []string{
		"", "\n", "-----BEGIN A-----\n", "-----BEGIN A-----\n-----END A-----\n", "-----BEGIN A-----\n/w==\n-----END A-----", "-----BEGIN A-----\n/w==\n-----END B-----\n", "-----BEGIN A-----\n/w==-----END A-----\n", "-----BEGIN A-----\n/w==\n\n-----END A-----\n", "-----BEGIN A-----\n\n/w==\n-----END A-----\n", "-----BEGIN A-----\r\n/w==\r\n-----END A-----\r\n",
		"-----BEGIN A-----\n/x==\n-----END A-----\n", "-----BEGIN A-----\n/w=\n-----END A-----\n", "-----BEGIN a-----\n/w==\n-----END a-----\n", "-----BEGIN -----\n/w==\n-----END -----\n", "-----BEGIN A -----\n/w==\n-----END A -----\n", "----BEGIN A-----\n/w==\n-----END A-----\n", " -----BEGIN A-----\n/w==\n-----END A-----\n", "-----BEGIN A-----\n/w==\n-----END A-----\n\n", "-----BEGIN A-----\n/w ==\n-----END A-----\n", "-----BEGIN A-----/w==\n-----END A-----\n",
		"-----BEGIN A-----\n" + line + "AAAA\n-----END A-----\n", "-----BEGIN A-----\n" + line[:60] + "\nAAAA\n-----END A-----\n", "-----BEGIN A-----\n" + line + "\n\n-----END A-----\n", "-----BEGIN A-----\nAAAA\n" + line + "\n-----END A-----\n", "-----BEGIN A-----\nname: x\n\n/w==\n-----END A-----\n",
		big[:len(big)-100] + big, strings.Replace(big, "-----\n", "-----\n"+line+"\n", 1), "-----BEGIN A-----\n/w==\n-----END A-----\n-----BEGIN A-----\n/w==\n-----END A-----\n",
	} {
		if name, b, err := Unarmor(s); name != "" || b != "" || err != api.ErrForm {
			t.Errorf("Unarmor(%.80q) = %q, %.20x, %d", s, name, b, err)
		}
	}
}
