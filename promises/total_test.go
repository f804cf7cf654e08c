package promises

import (
	"fmt"
	"math"
	"math/rand"
	"reflect"
	"runtime"
	"strings"
	"testing"
	"time"

	"claviger/aes"
	"claviger/api"
	"claviger/attr"
	"claviger/blob"
	"claviger/block"
	"claviger/canon"
	"claviger/cbc"
	"claviger/cmac"
	"claviger/curve"
	"claviger/derive"
	"claviger/desk"
	"claviger/digits"
	"claviger/dump"
	"claviger/equal"
	"claviger/fault"
	"claviger/field"
	"claviger/frame"
	"claviger/head"
	"claviger/header"
	"claviger/kcv"
	"claviger/kdf"
	"claviger/kind"
	"claviger/limit"
	"claviger/load"
	"claviger/octets"
	"claviger/oid"
	"claviger/open"
	"claviger/option"
	"claviger/padwrap"
	"claviger/pem"
	"claviger/pkcs8"
	"claviger/record"
	"claviger/rewrap"
	"claviger/round"
	"claviger/sbox"
	"claviger/sched"
	"claviger/script"
	"claviger/seal"
	"claviger/sec1"
	"claviger/service"
	"claviger/setof"
	"claviger/span"
	"claviger/store"
	"claviger/strs"
	"claviger/table"
	"claviger/templ"
	"claviger/tlv"
	"claviger/tree"
	"claviger/usage"
	"claviger/whole"
	"claviger/wrap"
)

// calls are all functions that the chapters list.
var calls = []any{
	octets.Put, octets.Get, octets.Cut, octets.Pieces, octets.Zeros, octets.Xor, octets.Join, octets.Pad, octets.Trim,
	digits.Hex, digits.Unhex, digits.Dec, digits.Undec, digits.Num, digits.Unnum, digits.Value,
	span.Of, span.May, span.From, span.To, span.Cut, span.Shift, span.Inside, span.Apart, span.Count,
	equal.Scan, equal.Nought, equal.Unlike, equal.First, equal.Pick,
	field.Add, field.Twice, field.Mul, field.Pow, field.Inv, field.Log, field.Dot,
	sbox.Turn, sbox.Sub, sbox.Back, sbox.Table, sbox.Subs, sbox.Backs,
	round.Shift, round.Unshift, round.Mix, round.Unmix, round.Key, round.Do, round.Undo,
	sched.Rounds, sched.Constant, sched.Words, sched.Keys,
	aes.Encrypt, aes.Decrypt, aes.Many, cbc.Encrypt, cbc.Decrypt, cbc.Last,
	cmac.Double, cmac.Subkeys, cmac.Tag, cmac.Check, cmac.Blocks, kdf.Counter, kdf.Rounds, kdf.Fixed,
	wrap.Value, wrap.Raw, wrap.Unraw, wrap.Wrap, wrap.Unwrap, wrap.Steps, padwrap.Value, padwrap.Length, padwrap.Wrap, padwrap.Unwrap, padwrap.Size,
	head.Encode, head.Decode, head.Size, whole.Encode, whole.Decode, whole.Right, whole.Big, whole.Unbig, whole.Wide,
	oid.Right, oid.Encode, oid.Decode, oid.Text, oid.Parse, oid.Under, strs.Bool, strs.Unbool, strs.Bits, strs.Unbits, strs.Utf, strs.Printable, strs.Right,
	tlv.Decode, tlv.Spans, tlv.Pieces, tree.Right, tree.Encode, tree.Size, tree.Depth, tree.Leaf, tree.Of, tree.Sub, tree.Kids,
	setof.Less, setof.Sort, setof.Rises, setof.Place, curve.Name, curve.Width, curve.Arcs, curve.Order, curve.By, curve.Of, curve.Scalar,
	kind.Name, kind.Size, kind.Letter, kind.Curve, kind.Arcs, kind.By, kind.Of, kind.Most, kind.Check,
	attr.Check, attr.Get, attr.Set, attr.Drop, attr.Encode, attr.Decode, attr.Pack, attr.Unpack,
	sec1.Encode, sec1.Decode, sec1.Size, pkcs8.Encode, pkcs8.Decode,
	record.Check, record.Bare, record.Copy, record.Same, record.Text, record.Parse, record.With, record.Without, canon.Encode, canon.Decode, canon.Size,
	blob.Export, blob.Import, blob.Size, table.Usage, table.Mode, table.Version, table.Export, table.Check, table.Usages, table.Modes,
	header.Encode, header.Decode, option.Encode, option.Decode, option.Pack, option.Unpack, option.Padding,
	templ.Encode, templ.Decode, templ.Options, templ.From, frame.Top, frame.Join, frame.Cut, frame.Parts,
	derive.Input, derive.Keys, derive.Key, load.Total, load.Pads, load.Make, load.Take,
	seal.Seal, seal.Bind, seal.Blocks, open.Open, open.Right, block.Export, block.Import, block.Size,
	fault.Name, fault.By, fault.Class, fault.All, fault.First, fault.Count, fault.Told,
	usage.Ops, usage.Of, usage.May, usage.Export, usage.Leaves, limit.Fits, limit.Most, limit.Cost, limit.Total,
	service.Export, service.Import, service.Any, service.Guess, service.Pads, service.Size, rewrap.Down, rewrap.Up, rewrap.Rewrap,
	kcv.Of, kcv.Legacy, kcv.Check, kcv.Split, kcv.Combine, pem.Base, pem.Unbase, pem.Armor, pem.Unarmor,
	dump.Lines, dump.Read, dump.Block, store.Name, store.Check, store.Names, store.Put, store.Add, store.Get, store.Blob, store.Drop, store.Move, store.Rekey,
	script.Text, script.Parse, script.Lines, script.Word, script.Format, desk.Check, desk.Do, desk.Run, desk.Backup,
}

func name(f any) string {
	return strings.TrimPrefix(runtime.FuncForPC(reflect.ValueOf(f).Pointer()).Name(), "claviger/")
}

// pools hold arguments by type.
type pools struct {
	r       *rand.Rand
	strings []string
}

var ints = []int{math.MinInt, math.MinInt + 1, -65536, -8, -1, 0, 1, 2, 3, 4, 5, 6, 7, 8, 9, 10, 11, 12, 15, 16, 17, 19, 24, 28, 31, 32, 33, 48, 64, 66, 80, 96, 127, 128, 144, 255, 256, 4080, 4096, 9999, 65535, 65536, 65544, 65552, 2097151, math.MaxInt32, math.MaxInt - 7, math.MaxInt}

func newPools(seed int64) *pools {
	p := &pools{r: rand.New(rand.NewSource(seed))}
	kek := strings.Repeat("k", 16)
	p.strings = []string{"", "\x00", "A", "T", "E", "H", "B", "N", "K0", "S0", "47", "00", "c1", "encrypt", "wrapped", "keyed", "ok", "sum", "a", "b-1", "PB", "10", "x y", kek, strings.Repeat("l", 24), strings.Repeat("m", 32), strings.Repeat("\x00", 16), strings.Repeat("\xff", 66), wrap.Value(), padwrap.Value(16), padwrap.Value(3), "1.2.840.10045.2.1", "0005", "00050161", "7", "-12", "AB05", "/w==", strings.Repeat("0", 70000), strings.Repeat("\x30\x80", 100), strings.Repeat(" ", 50), strings.Repeat("list\n", 300), "list\nget a\n", "get a", "rekey 00"}
	for i := range 6 {
		w, k := randomRecord(p.r, api.Wrapped), randomRecord(p.r, api.Keyed)
		pads := random(p.r, service.Pads(api.Keyed, k))
		b, _ := service.Export(kek, api.Wrapped, w, "")
		c, _ := service.Export(kek, api.Keyed, k, pads)
		der, _ := canon.Encode(w)
		packed, _ := attr.Pack(w.Attrs)
		armor, _ := pem.Armor("KEY", b)
		p.strings = append(p.strings, w.Key, pads, b, c, der, packed, armor, record.Text(w), record.Text(k), "put a wrapped - "+record.Text(w), "put a keyed "+digits.Hex(pads)+" "+record.Text(k)+"\n", random(p.r, 1+i*7), der[:len(der)/2], c[:40])
	}
	return p
}

// value returns an argument of a type.
func (p *pools) value(t reflect.Type) reflect.Value {
	v := reflect.New(t).Elem()
	switch t {
	case reflect.TypeFor[api.Record]():
		return reflect.ValueOf(randomRecord(p.r, 1+p.r.Intn(2)))
	case reflect.TypeFor[api.Tree]():
		if p.r.Intn(3) > 0 {
			x, _ := tlv.Decode(p.strings[p.r.Intn(len(p.strings))])
			return reflect.ValueOf(x)
		}
	case reflect.TypeFor[[]api.Attr]():
		if p.r.Intn(3) > 0 {
			return reflect.ValueOf(randomAttrs(p.r))
		}
	case reflect.TypeFor[api.Store]():
		if p.r.Intn(3) > 0 {
			s := api.Store{}
			for _, name := range []string{"a", "c", "x"} {
				x := randomRecord(p.r, api.Wrapped)
				s, _ = store.Put(strings.Repeat("k", 16), s, name, api.Wrapped, x, "")
			}
			return reflect.ValueOf(s)
		}
	case reflect.TypeFor[script.Step]():
		if p.r.Intn(3) > 0 {
			return reflect.ValueOf(randomStep(p.r))
		}
	case reflect.TypeFor[desk.Desk]():
		if p.r.Intn(3) > 0 {
			return reflect.ValueOf(desk.Desk{Kek: strings.Repeat("k", 16), Store: p.value(reflect.TypeFor[api.Store]()).Interface().(api.Store)})
		}
	case reflect.TypeFor[complex128]():
		parts := []float64{0, math.Copysign(0, -1), 1, 2.5, 5, 100, 65552, 65553, -1, math.NaN(), math.Inf(1), math.Inf(-1), 1e300}
		return reflect.ValueOf(complex(parts[p.r.Intn(len(parts))], parts[p.r.Intn(len(parts))]))
	}
	switch t.Kind() {
	case reflect.String:
		v.SetString(p.strings[p.r.Intn(len(p.strings))])
	case reflect.Int:
		v.SetInt(int64(ints[p.r.Intn(len(ints))]))
	case reflect.Uint64, reflect.Uint8:
		v.SetUint(p.r.Uint64() >> p.r.Intn(64) & (1<<t.Bits() - 1))
	case reflect.Bool:
		v.SetBool(p.r.Intn(2) == 0)
	case reflect.Slice:
		// With spare capacity, which must have no influence and must not be written to.
		n := p.r.Intn(4)
		v.Set(reflect.MakeSlice(t, n+2, n+2))
		for i := range n + 2 {
			v.Index(i).Set(p.value(t.Elem()))
		}
		v = v.Slice(0, n)
	case reflect.Struct:
		for i := range t.NumField() {
			v.Field(i).Set(p.value(t.Field(i).Type))
		}
	default:
		panic(t.String())
	}
	return v
}

func (p *pools) arguments(f reflect.Type) []reflect.Value {
	var in []reflect.Value
	for i := range f.NumIn() {
		in = append(in, p.value(f.In(i)))
	}
	return in
}

// show prints values, without addresses, and up to the capacity of lists.
func show(l []reflect.Value) string {
	out := ""
	for _, v := range l {
		out += dumped(v) + ";"
	}
	return out
}

func dumped(v reflect.Value) string {
	switch v.Kind() {
	case reflect.Slice:
		out := fmt.Sprint(v.Len(), "[")
		for i := range v.Len() {
			out += dumped(v.Index(i)) + ","
		}
		return out + "]"
	case reflect.Struct:
		out := "{"
		for i := range v.NumField() {
			out += dumped(v.Field(i)) + ","
		}
		return out + "}"
	}
	return fmt.Sprintf("%q", fmt.Sprint(v.Interface()))
}

// whole returns the lists of v with their spare capacity.
func wholes(l []reflect.Value) []reflect.Value {
	var out []reflect.Value
	for _, v := range l {
		if v.Kind() == reflect.Slice {
			v = v.Slice(0, v.Cap())
		}
		out = append(out, v)
	}
	return out
}

// scribble overwrites all lists of v.
func scribble(v reflect.Value) {
	switch v.Kind() {
	case reflect.Slice:
		v = v.Slice(0, v.Cap())
		for i := range v.Len() {
			scribble(v.Index(i))
			v.Index(i).SetZero()
		}
	case reflect.Struct:
		for i := range v.NumField() {
			scribble(v.Field(i))
		}
	}
}

// failed reports whether results tell an error.
func failed(out []reflect.Value) bool {
	switch last := out[len(out)-1].Interface().(type) {
	case api.Errno:
		return last != api.OK
	case api.Fault:
		return last.Code != api.OK
	}
	return false
}

func zero(v reflect.Value) bool {
	return v.IsZero() || v.Kind() == reflect.Slice && v.Len() == 0 || v.Type() == reflect.TypeFor[api.Store]() && len(v.Interface().(api.Store).Slots) == 0
}

func call(f reflect.Value, in []reflect.Value) []reflect.Value {
	if f.Type().IsVariadic() {
		return f.CallSlice(in)
	}
	return f.Call(in)
}

// P0, and the rules that hold everywhere: no call panics, results depend on the arguments alone, arguments are neither
// changed nor shared, and with an error all other results are zero.
func TestAllCalls(t *testing.T) {
	p := newPools(1)
	for _, c := range calls {
		f := reflect.ValueOf(c)
		begin := time.Now()
		for n := 0; n < 400 && time.Since(begin) < 2*time.Second; n++ {
			in := p.arguments(f.Type())
			before := show(wholes(in))
			out := call(f, in)
			first := show(out)
			if failed(out) && name(c) != "desk.Do" {
				for _, v := range out[:len(out)-1] {
					if !zero(v) {
						t.Fatalf("%s: a result with an error: %s", name(c), first)
					}
				}
			}
			for i, v := range out {
				scribble(v)
				for _, other := range out[i+1:] {
					if other.Kind() == reflect.Slice && v.Kind() == reflect.Slice && v.Len() > 0 && other.Len() > 0 && v.Pointer() == other.Pointer() {
						t.Fatalf("%s: results share a list", name(c))
					}
				}
			}
			if show(wholes(in)) != before {
				t.Fatalf("%s: an argument was changed, or is shared", name(c))
			}
			if show(call(f, in)) != first {
				t.Fatalf("%s: results differ from call to call", name(c))
			}
		}
	}
}

// P0: the time for long arguments.
func TestLongArguments(t *testing.T) {
	const size = 1 << 20
	fills := []string{"\x00", "0", " ", "\n", "A", ",", ".", "=", "\xff", "\x30\x00", "\x30\x80", "1.", "a 1=61 ", "list\n", "00050161", "1004", "-----BEGIN A-----\n", "\xef\xbf\xbd", "  U5 -"}
	kek := strings.Repeat("k", 16)
	for _, c := range calls {
		f := reflect.ValueOf(c)
		for _, fill := range fills {
			long := strings.Repeat(fill, size/len(fill))
			var in []reflect.Value
			used := false
			for i := range f.Type().NumIn() {
				v := reflect.New(f.Type().In(i)).Elem()
				fillLong(v, long, 1<<12, &used)
				in = append(in, v)
			}
			if !used {
				break
			}
			for _, withKey := range []bool{false, true} {
				if withKey && f.Type().In(0).Kind() == reflect.String {
					in[0] = reflect.ValueOf(kek)
				}
				begin := time.Now()
				call(f, in)
				if d := time.Since(begin); d > 10*time.Second {
					t.Errorf("%s takes %v with %q", name(c), d, fill)
				}
			}
		}
	}
}

// fillLong sets all strings in v, and gives lists n elements; those within them have four.
func fillLong(v reflect.Value, long string, n int, used *bool) {
	switch v.Kind() {
	case reflect.String:
		v.SetString(long)
		*used = true
	case reflect.Int:
		v.SetInt(1)
	case reflect.Struct:
		for i := range v.NumField() {
			fillLong(v.Field(i), long, n, used)
		}
	case reflect.Slice:
		v.Set(reflect.MakeSlice(v.Type(), n, n))
		for i := range n {
			fillLong(v.Index(i), long[:64], 4, used)
		}
	}
}

// The list of calls is complete, but for those of ciphers.
func TestNumberOfCalls(t *testing.T) {
	seen := map[string]bool{}
	for _, c := range calls {
		seen[name(c)] = true
	}
	if len(seen) != len(calls) {
		t.Error("a call is listed twice")
	}
	for _, c := range []*aes.Cipher{nil, {}} {
		if _, err := c.Encrypt(""); err != api.ErrArg || c.Size() != 0 {
			t.Error("a cipher that no call made")
		}
	}
}
