package round

import (
	"encoding/hex"
	"strings"
	"testing"

	"claviger/field"
	"claviger/sbox"
)

func un(s string) string {
	b, err := hex.DecodeString(strings.ReplaceAll(s, " ", ""))
	if err != nil {
		panic(err)
	}
	return string(b)
}

var samples = []string{
	un("000102030405060708090a0b0c0d0e0f"), un("00112233445566778899aabbccddeeff"), un("d4bf5d30e0b452aeb84111f11e2798e5"),
	strings.Repeat("\x00", 16), strings.Repeat("\xff", 16), "sixteen bytes ok",
}

// P7.1
func TestShift(t *testing.T) {
	for _, s := range samples {
		got := Shift(s)
		for r := range 4 {
			for c := range 4 {
				if got[4*c+r] != s[4*((c+r)%4)+r] {
					t.Errorf("Shift(%x): row %d, column %d", s, r, c)
				}
			}
		}
		if Unshift(got) != s || Shift(Unshift(s)) != s {
			t.Errorf("Unshift(%x)", got)
		}
	}
	if got := Shift(samples[0]); got != un("00050a0f04090e03080d02070c01060b") {
		t.Errorf("Shift = %x", got)
	}
	// FIPS 197, appendix B, round 1.
	if got := Shift(un("d42711aee0bf98f1b8b45de51e415230")); got != un("d4bf5d30e0b452aeb84111f11e2798e5") {
		t.Errorf("Shift = %x", got)
	}
}

// P7.2
func TestMix(t *testing.T) {
	if got := Mix(un("db135345 f20a225c 01010101 c6c6c6c6")); got != un("8e4da1bc 9fdc589d 01010101 c6c6c6c6") {
		t.Errorf("Mix = %x", got)
	}
	if got := Mix(un("d4bf5d30e0b452aeb84111f11e2798e5")); got != un("046681e5e0cb199a48f8d37a2806264c") {
		t.Errorf("Mix = %x", got)
	}
	for _, s := range samples {
		mixed, back := Mix(s), Unmix(s)
		for c := range 4 {
			for i := range 4 {
				a := func(j int) byte { return s[4*c+(i+j)%4] }
				if mixed[4*c+i] != field.Mul(2, a(0))^field.Mul(3, a(1))^a(2)^a(3) {
					t.Errorf("Mix(%x): column %d, byte %d", s, c, i)
				}
				if back[4*c+i] != field.Mul(14, a(0))^field.Mul(11, a(1))^field.Mul(13, a(2))^field.Mul(9, a(3)) {
					t.Errorf("Unmix(%x): column %d, byte %d", s, c, i)
				}
			}
		}
	}
}

// P7.2
func TestKey(t *testing.T) {
	if got := Key(samples[0], samples[4]); got != un("fffefdfcfbfaf9f8f7f6f5f4f3f2f1f0") {
		t.Errorf("Key = %x", got)
	}
}

// P7.3
func TestDo(t *testing.T) {
	// FIPS 197, appendix B, round 1.
	if got := Do(un("193de3bea0f4e22b9ac68d2ae9f84808"), un("a0fafe1788542cb123a339392a6c7605"), false); got != un("a49c7ff2689f352b6b5bea43026a5049") {
		t.Errorf("Do = %x", got)
	}
	for _, s := range samples {
		for _, k := range samples {
			if Do(s, k, false) != Key(Mix(Shift(sbox.Subs(s))), k) || Do(s, k, true) != Key(Shift(sbox.Subs(s)), k) {
				t.Errorf("Do(%x, %x)", s, k)
			}
			if Undo(s, k, false) != sbox.Backs(Unshift(Unmix(Key(s, k)))) || Undo(s, k, true) != sbox.Backs(Unshift(Key(s, k))) {
				t.Errorf("Undo(%x, %x)", s, k)
			}
		}
	}
}

// P7.1, P7.2, P7.3
func TestOtherLengths(t *testing.T) {
	good := samples[0]
	for _, s := range []string{"", "a", good[:15], good + "a", strings.Repeat(good, 2)} {
		if Shift(s) != "" || Unshift(s) != "" || Mix(s) != "" || Unmix(s) != "" || Key(s, good) != "" || Key(good, s) != "" || Key(s, s) != "" {
			t.Errorf("a step accepts %d bytes", len(s))
		}
		for _, last := range []bool{false, true} {
			if Do(s, good, last) != "" || Do(good, s, last) != "" || Undo(s, good, last) != "" || Undo(good, s, last) != "" {
				t.Errorf("a round accepts %d bytes", len(s))
			}
		}
	}
}

// P7.4
func TestInverses(t *testing.T) {
	for _, s := range samples {
		if Unmix(Mix(s)) != s || Mix(Unmix(s)) != s || Shift(Shift(Shift(Shift(s)))) != s || Shift(Shift(un("000102030405060708090a0b0c0d0e0f"))) == un("000102030405060708090a0b0c0d0e0f") {
			t.Errorf("%x", s)
		}
		for _, k := range samples {
			for _, last := range []bool{false, true} {
				if Undo(Do(s, k, last), k, last) != s || Do(Undo(s, k, last), k, last) != s {
					t.Errorf("%x, %x, %t", s, k, last)
				}
			}
		}
	}
}
