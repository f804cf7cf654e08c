package sec1

import (
	"encoding/hex"
	"math"
	"strings"
	"testing"

	"claviger/api"
	"claviger/curve"
)

func un(s string) string {
	b, err := hex.DecodeString(strings.ReplaceAll(s, " ", ""))
	if err != nil {
		panic(err)
	}
	return string(b)
}

func scalar(no int) string {
	return "\x00" + strings.Repeat("\x5a", curve.Width(no)-1)
}

// P25.1, P25.2, P25.3
func TestKeys(t *testing.T) {
	begins := map[int]string{1: "302b020101041c", 2: "30310201010420", 3: "303e0201010430", 4: "30500201010442"}
	ends := map[int]string{1: "a00706052b81040021", 2: "a00a06082a8648ce3d030107", 3: "a00706052b81040022", 4: "a00706052b81040023"}
	for no := 1; no <= 4; no++ {
		want := un(begins[no]) + scalar(no) + un(ends[no])
		want = want[:1] + string([]byte{byte(len(want) - 2)}) + want[2:]
		got, err := Encode(no, scalar(no))
		if got != want || err != api.OK || Size(no) != len(want) {
			t.Errorf("Encode of curve %d = %x, %d", no, got, err)
		}
		if n, s, err := Decode(got); n != no || s != scalar(no) || err != api.OK {
			t.Errorf("Decode of curve %d = %d, %x, %d", no, n, s, err)
		}
	}
	if Size(2) != 51 {
		t.Errorf("Size(2) = %d", Size(2))
	}
	for _, no := range []int{0, -1, 5, math.MaxInt} {
		if s, err := Encode(no, scalar(1)); s != "" || err != api.ErrKind || Size(no) != 0 {
			t.Errorf("Encode of curve %d: %d", no, err)
		}
	}
	for no := 1; no <= 4; no++ {
		for _, c := range []struct {
			scalar string
			want   api.Errno
		}{{"", api.ErrLength}, {scalar(no)[1:], api.ErrLength}, {scalar(no) + "x", api.ErrLength}, {"\x00" + scalar(no), api.ErrLength}, {strings.Repeat("\x00", curve.Width(no)), api.ErrValue}, {curve.Order(no), api.ErrValue}} {
			if s, err := Encode(no, c.scalar); s != "" || err != c.want {
				t.Errorf("Encode(%d, %x): %d", no, c.scalar, err)
			}
		}
	}
}

// P25.2
func TestDecodeOther(t *testing.T) {
	const key = "04 20 0000000000000000000000000000000000000000000000000000000000000005"
	const name = "06 08 2a8648ce3d030107"
	for _, c := range []struct {
		s    string
		want api.Errno
	}{
		{"", api.ErrEmpty}, {"30 31", api.ErrForm}, {"30 84", api.ErrSize}, {strings.Repeat("30 80", 3), api.ErrForm},
		{"30 31 02 01 01" + key + "a0 0a" + name, api.OK},
		{"31 31 02 01 01" + key + "a0 0a" + name, api.ErrForm}, {"b0 31 02 01 01" + key + "a0 0a" + name, api.ErrForm},
		{"30 31 02 01 00" + key + "a0 0a" + name, api.ErrForm}, {"30 31 02 01 02" + key + "a0 0a" + name, api.ErrForm}, {"30 32 02 02 01 01" + key + "a0 0a" + name, api.ErrForm}, {"30 31 82 01 01" + key + "a0 0a" + name, api.ErrForm}, {"30 31 04 01 01" + key + "a0 0a" + name, api.ErrForm},
		{"30 31 02 01 01 0c" + key[2:] + "a0 0a" + name, api.ErrForm}, {"30 31 02 01 01 84" + key[2:] + "a0 0a" + name, api.ErrForm},
		{"30 31 02 01 01" + key + "a1 0a" + name, api.ErrForm}, {"30 31 02 01 01" + key + "e0 0a" + name, api.ErrForm}, {"30 31 02 01 01" + key + "30 0a" + name, api.ErrForm}, {"30 31 02 01 01" + key + "80 0a" + name, api.ErrForm},
		{"30 31 02 01 01" + key + "a0 00" + name, api.ErrForm}, {"30 27 02 01 01" + key + "a0 00", api.ErrForm}, {"30 25 02 01 01" + key, api.ErrForm}, {"30 2f 02 01 01" + key + name, api.ErrForm},
		{"30 33 02 01 01" + key + "a0 0c" + name + "05 00", api.ErrForm}, {"30 33 02 01 01" + key + "a0 0a" + name + "05 00", api.ErrForm}, {"30 33 02 01 01" + key + "a0 0a" + name + "a1 00", api.ErrForm}, {"30 31 02 01 01" + key + "a0 0a" + name + "05 00", api.ErrForm},
		{"30 31 02 01 01" + key + "a0 0a 86" + name[2:], api.ErrForm}, {"30 33 02 01 01" + key + "a0 0c 30 0a" + name, api.ErrForm}, {"30 31 " + key + "02 01 01" + "a0 0a" + name, api.ErrForm},
		{"30 31 02 01 01" + key + "a0 0a 06 08 2a8648ce3d030108", api.ErrKind}, {"30 2b 02 01 01" + key + "a0 04 06 02 2a03", api.ErrKind}, {"30 2e 02 01 01" + key + "a0 07 06 05 2b81040021", api.ErrLength}, {"30 10 02 01 01 04 01 05 a0 08 06 06 2a8648ce3d03", api.ErrKind},
		{"30 30 02 01 01 04 1f" + strings.Repeat("01", 31) + "a0 0a" + name, api.ErrLength}, {"30 11 02 01 01 04 00 a0 0a" + name, api.ErrLength}, {"30 32 02 01 01 04 21 00" + strings.Repeat("01", 32) + "a0 0a" + name, api.ErrLength},
		{"30 31 02 01 01 04 20" + strings.Repeat("00", 32) + "a0 0a" + name, api.ErrValue}, {"30 31 02 01 01 04 20" + strings.Repeat("ff", 32) + "a0 0a" + name, api.ErrValue}, {"30 31 02 01 01 04 20" + hex.EncodeToString([]byte(curve.Order(2))) + "a0 0a" + name, api.ErrValue},
	} {
		no, s, err := Decode(un(c.s))
		if err != c.want || err != api.OK && (no != 0 || s != "") {
			t.Errorf("Decode(%s) = %d, %x, %d, want %d", c.s, no, s, err, c.want)
		}
		if again, _ := Encode(no, s); err == api.OK && again != un(c.s) {
			t.Errorf("Encode of Decode of %s", c.s)
		}
	}
	deep := ""
	for i := range 17 {
		deep = "30" + hex.EncodeToString([]byte{byte(2 * i)}) + deep
	}
	if _, _, err := Decode(un(deep)); err != api.ErrDepth {
		t.Errorf("17 nested elements: %d", err)
	}
}
