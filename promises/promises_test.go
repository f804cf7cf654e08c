// Package promises tests the promises of the document that concern the whole.
package promises

import (
	stdaes "crypto/aes"
	"crypto/cipher"
	"encoding/hex"
	"math/rand"
	"slices"
	"strconv"
	"strings"
	"testing"

	"claviger/aes"
	"claviger/api"
	"claviger/cmac"
	"claviger/curve"
	"claviger/derive"
	"claviger/desk"
	"claviger/fault"
	"claviger/kcv"
	"claviger/kind"
	"claviger/limit"
	"claviger/load"
	"claviger/padwrap"
	"claviger/record"
	"claviger/rewrap"
	"claviger/script"
	"claviger/service"
	"claviger/table"
	"claviger/tlv"
	"claviger/wrap"
)

func un(s string) string {
	b, err := hex.DecodeString(s)
	if err != nil {
		panic(err)
	}
	return string(b)
}

func random(r *rand.Rand, n int) string {
	b := make([]byte, n)
	r.Read(b)
	return string(b)
}

func randomKey(r *rand.Rand, k int) string {
	for {
		key := random(r, kind.Size(k))
		if kind.Curve(k) == 4 {
			key = "\x00" + key[1:]
		}
		if kind.Check(k, key) == api.OK {
			return key
		}
	}
}

func randomAttrs(r *rand.Rand) []api.Attr {
	var l []api.Attr
	tag := 0
	for range r.Intn(6) {
		tag += 1 + r.Intn(9000)
		l = append(l, api.Attr{Tag: tag, Value: random(r, r.Intn(20))})
	}
	return l
}

// randomRecord returns a record that is valid for a format.
func randomRecord(r *rand.Rand, format int) api.Record {
	k := 1 + r.Intn(11)
	x := api.Record{Kind: k, Key: randomKey(r, k), Attrs: randomAttrs(r)}
	if format == api.Keyed {
		usages := append(table.Usages(kind.Letter(k)), "10", "99")
		usage := usages[r.Intn(len(usages))]
		modes := table.Modes(usage)
		x.Head = api.Head{Usage: usage, Mode: modes[r.Intn(len(modes)):][:1], Version: []string{"00", "c1", "c9", "10", "99"}[r.Intn(5)], Export: "ENS"[r.Intn(3):][:1]}
	}
	return x
}

func randomKek(r *rand.Rand) string {
	return random(r, 16+8*r.Intn(3))
}

// P1: the examples of FIPS 197, RFC 4493, RFC 3394 and RFC 5649.
func TestStandards(t *testing.T) {
	const keys = "000102030405060708090a0b0c0d0e0f101112131415161718191a1b1c1d1e1f"
	const data = "00112233445566778899aabbccddeeff000102030405060708090a0b0c0d0e0f"
	for n, want := range map[int]string{16: "69c4e0d86a7b0430d8cdb78070b4c55a", 24: "dda97ca4864cdfe06eaf70a0ec0d7191", 32: "8ea2b7ca516745bfeafc49904b496089"} {
		if got, err := aes.Encrypt(un(keys)[:n], un(data)[:16]); got != un(want) || err != api.OK {
			t.Errorf("AES with %d bytes: %x", n, got)
		}
	}
	message := un("6bc1bee22e409f96e93d7e117393172aae2d8a571e03ac9c9eb76fac45af8e5130c81c46a35ce411e5fbc1191a0a52eff69f2445df4f9b17ad2b417be66c3710")
	for n, want := range map[int]string{0: "bb1d6929e95937287fa37d129b756746", 16: "070a16b46b4d4144f79bdd9dd04a287c", 40: "dfa66747de9ae63030ca32611497c827", 64: "51f0bebf7e3b9d92fc49741779363cfe"} {
		if got, err := cmac.Tag(un("2b7e151628aed2a6abf7158809cf4f3c"), message[:n]); got != un(want) || err != api.OK {
			t.Errorf("CMAC of %d bytes: %x", n, got)
		}
	}
	for n, want := range map[int]string{16: "1fa68b0a8112b447aef34bd8fb5a7b829d3e862371d2cfe5", 24: "96778b25ae6ca435f92b5b97c050aed2468ab8a17ad84e5d", 32: "64e8c3f9ce0f5ba263e9777905818a2a93c8191e7d6e8ae7"} {
		if got, err := wrap.Wrap(un(keys)[:n], un(data)[:16]); got != un(want) || err != api.OK {
			t.Errorf("key wrap with %d bytes: %x", n, got)
		}
	}
	kek := un("5840df6e29b02af1ab493b705bf16ea1ae8338f4dcc176a8")
	for s, want := range map[string]string{"466f7250617369": "afbeb0f07dfbf5419200f2ccb50bb24f", "c37b7e6492584340bed12207808941155068f738": "138bdeaa9b8fa7fc61f97742e72248ee5ae6ae5360d1ae6a5f54f373fa543b6a"} {
		if got, err := padwrap.Wrap(kek, un(s)); got != un(want) || err != api.OK {
			t.Errorf("key wrap with padding of %s: %x", s, got)
		}
	}
}

// P2, P4
func TestRoundTrip(t *testing.T) {
	r := rand.New(rand.NewSource(1))
	for range 800 {
		for _, format := range []int{api.Wrapped, api.Keyed} {
			kek, x := randomKek(r), randomRecord(r, format)
			pads := random(r, service.Pads(format, x))
			b, err := service.Export(kek, format, x, pads)
			if err != api.OK || b == "" || service.Size(format, x) != len(b) || !limit.Fits(format, len(b)) {
				t.Fatalf("Export of %v: %d", x, err)
			}
			if cost := limit.Cost(kek, format, b); real(cost) > float64(limit.Most(format, len(b))) || real(cost) < 1 {
				t.Fatalf("the cost of %d bytes is %v", len(b), cost)
			}
			got, gotPads, err := service.Import(kek, format, b)
			if !record.Same(got, x) || gotPads != pads || err != api.OK {
				t.Fatalf("Import of %v: %d", x, err)
			}
			for _, other := range []api.Record{{Kind: x.Kind + 11, Key: x.Key}, {Kind: x.Kind, Key: x.Key + "x"}, {Kind: x.Kind, Key: x.Key, Head: api.Head{Usage: "?"}}, {Kind: x.Kind, Key: x.Key, Head: x.Head, Attrs: []api.Attr{{}}}} {
				if b, err := service.Export(kek, format, other, pads); b != "" || !fault.Told(err, b != "") {
					t.Fatalf("Export of %v: %d", other, err)
				}
			}
			if b, err := service.Export(kek, format, x, pads+"x"); b != "" || err != api.ErrPad {
				t.Fatalf("Export with too many pads: %d", err)
			}
		}
	}
}

// checkImport checks P3 and P4 for any bytes.
func checkImport(t *testing.T, kek string, format int, b string) bool {
	x, pads, err := service.Import(kek, format, b)
	if !fault.Told(err, x.Kind != 0) || err != api.OK && (!record.Same(x, api.Record{}) || pads != "") {
		t.Fatalf("Import of %q: %v, %d", b, x, err)
	}
	if err != api.OK {
		return false
	}
	again, err := service.Export(kek, format, x, pads)
	if again != b || err != api.OK || record.Check(x) != api.OK {
		t.Fatalf("%q is imported as %v, which is exported as %q", b, x, again)
	}
	return true
}

// P3, P4, P6
func TestChangedBlobs(t *testing.T) {
	r := rand.New(rand.NewSource(2))
	for i := range 1600 {
		format := 1 + i%2
		kek, x := randomKek(r), randomRecord(r, format)
		b, _ := service.Export(kek, format, x, random(r, service.Pads(format, x)))
		if !checkImport(t, kek, format, b) {
			t.Fatal("a blob is not accepted")
		}
		changed := []byte(b)
		at := r.Intn(len(changed))
		if format == api.Keyed {
			changed[at] = "0123456789ABCDEFKNSX"[r.Intn(20)]
		} else {
			changed[at] ^= 1 << r.Intn(8)
		}
		if string(changed) != b && checkImport(t, kek, format, string(changed)) {
			t.Fatalf("a changed blob is accepted: %q", changed)
		}
		if checkImport(t, randomKek(r), format, b) {
			t.Fatal("a blob is accepted under another key")
		}
		checkImport(t, kek, 3-format, b)
		checkImport(t, kek, format, b[:r.Intn(len(b))])
		checkImport(t, kek, format, random(r, 8*r.Intn(30)))
	}
}

// P3, P4: DER that is wrapped correctly, but is not what a record is encoded as.
func TestChangedDER(t *testing.T) {
	r := rand.New(rand.NewSource(3))
	accepted := 0
	for range 3000 {
		kek, x := randomKek(r), randomRecord(r, api.Wrapped)
		b, _ := service.Export(kek, api.Wrapped, x, "")
		s, _ := padwrap.Unwrap(kek, b)
		der := []byte(s)
		for range 1 + r.Intn(2) {
			at := r.Intn(len(der))
			der[at] = []byte{0, 1, 2, 5, 0x30, 0x31, 0x80, 0x81, 0xa0, 0xff, byte(r.Intn(256)), der[at] + 1, der[at] - 1}[r.Intn(13)]
		}
		b, _ = padwrap.Wrap(kek, string(der))
		if checkImport(t, kek, api.Wrapped, b) {
			accepted++
		}
	}
	if accepted == 0 {
		t.Error("nothing was accepted")
	}
}

// P5, with the cipher of the library: the key wrap, the tags and the key blocks.
func TestModel(t *testing.T) {
	r := rand.New(rand.NewSource(4))
	for range 200 {
		kek, x := randomKek(r), randomRecord(r, api.Keyed)
		pads := random(r, service.Pads(api.Keyed, x))
		b, _ := service.Export(kek, api.Keyed, x, pads)
		total := load.Total(kind.Letter(x.Kind))
		top := b[:len(b)-2*total-32]
		bits := 8 * len(x.Key)
		payload := string([]byte{byte(bits >> 8), byte(bits)}) + x.Key + pads
		keys := [2]string{}
		for purpose := range 2 {
			for i := 1; len(keys[purpose]) < len(kek); i++ {
				keys[purpose] += modelTag(kek, string([]byte{byte(i)})+derive.Input(purpose, len(kek)))
			}
			keys[purpose] = keys[purpose][:len(kek)]
		}
		tag := modelTag(keys[1], top+payload)
		std, _ := stdaes.NewCipher([]byte(keys[0]))
		out := make([]byte, total)
		cipher.NewCBCEncrypter(std, []byte(tag)).CryptBlocks(out, []byte(payload))
		if want := top + strings.ToUpper(hex.EncodeToString(out)+hex.EncodeToString([]byte(tag))); b != want {
			t.Fatalf("%q, want %q", b, want)
		}
		bare := randomRecord(r, api.Wrapped)
		b, _ = service.Export(kek, api.Wrapped, bare, "")
		s, _ := padwrap.Unwrap(kek, b)
		if modelWrap(kek, s) != b {
			t.Fatalf("the blob of %x", s)
		}
	}
}

func modelTag(key, s string) string {
	c, _ := stdaes.NewCipher([]byte(key))
	k := make([]byte, 16)
	c.Encrypt(k, k)
	double := func() {
		carry := k[0] >> 7
		for i := range 15 {
			k[i] = k[i]<<1 | k[i+1]>>7
		}
		k[15] = k[15]<<1 ^ carry*135
	}
	double()
	if s == "" || len(s)%16 != 0 {
		double()
		s += "\x80" + strings.Repeat("\x00", 15-len(s)%16)
	}
	state := make([]byte, 16)
	for at := 0; at < len(s); at += 16 {
		for i := range 16 {
			state[i] ^= s[at+i]
			if at == len(s)-16 {
				state[i] ^= k[i]
			}
		}
		c.Encrypt(state, state)
	}
	return string(state)
}

func modelWrap(kek, s string) string {
	c, _ := stdaes.NewCipher([]byte(kek))
	a := []byte{0xa6, 0x59, 0x59, 0xa6, 0, 0, byte(len(s) >> 8), byte(len(s))}
	p := []byte(s)
	for len(p)%8 != 0 {
		p = append(p, 0)
	}
	b := make([]byte, 16)
	for j := range 6 {
		for i := 0; i < len(p); i += 8 {
			copy(b, a)
			copy(b[8:], p[i:i+8])
			c.Encrypt(b, b)
			n := j*len(p)/8 + i/8 + 1
			copy(a, b[:8])
			copy(p[i:], b[8:])
			a[6] ^= byte(n >> 8)
			a[7] ^= byte(n)
		}
	}
	return string(a) + string(p)
}

// model is a desk that stores records unwrapped.
type model map[string]struct {
	format int
	r      api.Record
	pads   string
}

func bytes(s string) string {
	if s == "" {
		return "-"
	}
	return strings.ToUpper(hex.EncodeToString([]byte(s)))
}

// do returns what a desk outputs for s.
func (m model) do(s script.Step) string {
	x, found := m[s.Name]
	switch s.Verb {
	case "put":
		x.r, _ = record.Parse(s.Text)
		x.format, x.pads = s.Format, s.Bytes
		err := api.OK
		switch {
		case found:
			err = api.ErrTwice
		case len(m) == 16:
			err = api.ErrFull
		case s.Format == api.Wrapped && s.Bytes != "":
			err = api.ErrPad
		case s.Format == api.Wrapped && !record.Bare(x.r):
			err = api.ErrHead
		case s.Format == api.Keyed && table.Check(x.r.Head, kind.Letter(x.r.Kind)) != api.OK:
			err = api.ErrHead
		case s.Format == api.Keyed && len(s.Bytes) != load.Pads(x.r.Kind):
			err = api.ErrPad
		}
		if err != api.OK {
			return "error " + fault.Name(err)
		}
		m[s.Name] = x
		return "put " + s.Name
	case "get":
		if !found {
			return "error none"
		}
		return s.Name + " " + script.Word(x.format) + " " + bytes(x.pads) + " " + record.Text(x.r)
	case "check":
		if !found {
			return "error none"
		}
		value, _ := kcv.Of(x.r)
		return s.Name + " " + bytes(value)
	case "drop":
		if !found {
			return "error none"
		}
		delete(m, s.Name)
		return "drop " + s.Name
	case "move":
		if _, taken := m[s.To]; !found {
			return "error none"
		} else if taken {
			return "error twice"
		}
		delete(m, s.Name)
		m[s.To] = x
		return "move " + s.Name + " " + s.To
	case "rekey":
		if n := len(s.Bytes); n != 16 && n != 24 && n != 32 {
			return "error key"
		}
		return "rekey " + strconv.Itoa(len(m))
	}
	return ""
}

func randomStep(r *rand.Rand) script.Step {
	names := "abcdefghijklmnopqrst"
	name := func() string { return names[r.Intn(len(names)):][:1] }
	switch r.Intn(10) {
	case 0, 1, 2, 3:
		format := 1 + r.Intn(2)
		x := randomRecord(r, format)
		if r.Intn(8) == 0 {
			x = randomRecord(r, 3-format)
		}
		pads := random(r, service.Pads(format, x))
		if r.Intn(8) == 0 {
			pads += "x"
		}
		return script.Step{Verb: "put", Name: name(), Format: format, Text: record.Text(x), Bytes: pads}
	case 4, 5:
		return script.Step{Verb: "get", Name: name()}
	case 6:
		return script.Step{Verb: "check", Name: name()}
	case 7:
		return script.Step{Verb: "drop", Name: name()}
	case 8:
		return script.Step{Verb: "move", Name: name(), To: name()}
	}
	return script.Step{Verb: "rekey", Bytes: random(r, []int{16, 24, 32, 5}[r.Intn(4)])}
}

// P7
func TestStorage(t *testing.T) {
	r := rand.New(rand.NewSource(5))
	for range 30 {
		m := model{}
		text := ""
		var want []string
		for range 100 {
			s := randomStep(r)
			line := script.Text(s)
			if line == "" {
				t.Fatalf("%v has no text", s)
			}
			text += line + "\n"
			want = append(want, m.do(s))
		}
		got := desk.Run(randomKek(r), text)
		if !slices.Equal(got, want) {
			for i := range got {
				if i < len(want) && got[i] != want[i] {
					t.Fatalf("line %d is %q, want %q", i, got[i], want[i])
				}
			}
			t.Fatalf("%d lines, want %d", len(got), len(want))
		}
	}
}

// The ten examples of the whole.
func TestExamples(t *testing.T) {
	kek := strings.Repeat("k", 16)
	bare := api.Record{Kind: 1, Key: strings.Repeat("\x00", 16)}
	full := bare
	full.Head = api.Head{Usage: "K0", Mode: "B", Version: "00", Export: "E"}
	b, _ := service.Export(kek, api.Wrapped, bare, "")
	der, _ := padwrap.Unwrap(kek, b)
	if len(b) != 48 || len(der) != 38 {
		t.Errorf("1: %d and %d bytes", len(b), len(der))
	}
	block, _ := service.Export(kek, api.Keyed, full, strings.Repeat("p", 30))
	if !strings.HasPrefix(block, "D0144K0AB00E0000") || len(block) != 144 {
		t.Errorf("2: %s", block)
	}
	for i, c := range []struct {
		kek    string
		format int
		b      string
		want   api.Errno
	}{{strings.Repeat("l", 16), 1, b, api.ErrSum}, {kek, 2, strings.Replace(block, "K0AB", "K0AN", 1), api.ErrSum}, {kek, 1, "", api.ErrEmpty}, {kek, 2, "", api.ErrEmpty}, {kek, 1, "nine byte", api.ErrSize}} {
		if _, _, err := service.Import(c.kek, c.format, c.b); err != c.want {
			t.Errorf("3 to 5, %d: %d", i, err)
		}
	}
	deep := ""
	for range 17 {
		deep = "\x30" + string([]byte{byte(len(deep))}) + deep
	}
	if _, f := tlv.Decode("\x30\x81\x02\x05\x00"); f.Code != api.ErrForm {
		t.Errorf("6: %d", f.Code)
	}
	if _, f := tlv.Decode(deep); f.Code != api.ErrDepth {
		t.Errorf("6: %d", f.Code)
	}
	bare.Attrs = []api.Attr{{Tag: 5, Value: "a"}, {Tag: 7, Value: "b"}}
	b, _ = service.Export(kek, api.Wrapped, bare, "")
	der, _ = padwrap.Unwrap(kek, b)
	n := (len(der) - 40) / 2
	swapped := der[:40] + der[40+n:] + der[40:40+n]
	b, _ = padwrap.Wrap(kek, swapped)
	if _, _, err := service.Import(kek, api.Wrapped, b); err != api.ErrForm || swapped == der {
		t.Errorf("7: %d", err)
	}
	if err := kind.Check(9, curve.Order(2)); err != api.ErrValue {
		t.Errorf("8: %d", err)
	}
	down, _ := rewrap.Down(full)
	if !slices.Equal(down.Attrs, []api.Attr{{Tag: 65535, Value: "K0B00E"}}) {
		t.Errorf("9: %v", down)
	}
	if got := desk.Run(kek, "put a wrapped - AES-128 00000000000000000000000000000000\nlist\n"); !slices.Equal(got, []string{"put a", "a wrapped 48"}) {
		t.Errorf("10: %q", got)
	}
}
