package tree

import (
	"encoding/hex"
	"math"
	"math/rand"
	"reflect"
	"slices"
	"strings"
	"testing"

	"claviger/api"
	"claviger/tlv"
)

func un(s string) string {
	b, err := hex.DecodeString(strings.ReplaceAll(s, " ", ""))
	if err != nil {
		panic(err)
	}
	return string(b)
}

func null() api.Tree {
	return Leaf(api.Universal, api.Null, "")
}

func nulls(n int) []api.Tree {
	return slices.Repeat([]api.Tree{null()}, n)
}

func nested(n int) api.Tree {
	t := Of(api.Universal, api.Sequence)
	for range n - 1 {
		t = Of(api.Universal, api.Sequence, t)
	}
	return t
}

func sample() api.Tree {
	return Of(api.Universal, api.Sequence,
		Of(api.Universal, api.Set, Leaf(api.Universal, api.Integer, "\x01"), Of(api.Context, 40)),
		Leaf(api.Universal, api.Octets, "abc"),
		Of(api.Private, 3, Of(api.Application, 4, null(), null()), null()))
}

// P20.3
func TestBuild(t *testing.T) {
	if got := Leaf(2, 7, "x"); !reflect.DeepEqual(got, api.Tree{{Class: 2, Tag: 7, Data: "x"}}) {
		t.Errorf("Leaf = %v", got)
	}
	want := api.Tree{
		{Tag: 16, Cons: true, Kids: []int{1, 4, 5}}, {Tag: 17, Cons: true, Kids: []int{2, 3}}, {Tag: 2, Data: "\x01"}, {Class: 2, Tag: 40, Cons: true}, {Tag: 4, Data: "abc"},
		{Class: 3, Tag: 3, Cons: true, Kids: []int{6, 9}}, {Class: 1, Tag: 4, Cons: true, Kids: []int{7, 8}}, {Tag: 5}, {Tag: 5}, {Tag: 5},
	}
	if got := sample(); !reflect.DeepEqual(got, want) {
		t.Errorf("Of = %v", got)
	}
	if got := Of(0, 16, nil, null(), api.Tree{}, null()); !reflect.DeepEqual(got, api.Tree{{Tag: 16, Cons: true, Kids: []int{1, 2}}, {Tag: 5}, {Tag: 5}}) {
		t.Errorf("Of with empty parts = %v", got)
	}
	// The parts need not be right.
	if got := Of(9, -1, api.Tree{{Kids: []int{5, -7}}}); !reflect.DeepEqual(got, api.Tree{{Class: 9, Tag: -1, Cons: true, Kids: []int{1}}, {Kids: []int{6, -6}}}) {
		t.Errorf("Of = %v", got)
	}
	part := sample()
	whole := Of(0, 16, part)
	whole[1].Kids[0] = 77
	if !reflect.DeepEqual(part, sample()) {
		t.Error("Of shares a list with its argument")
	}
}

// P20.1
func TestRight(t *testing.T) {
	for _, tree := range []api.Tree{null(), sample(), nested(16), Of(0, 16, nulls(999)...), Of(3, api.MaxTag), Leaf(3, 0, "anything")} {
		if !Right(tree) {
			t.Errorf("%v is not right", tree)
		}
	}
	change := func(f func(t api.Tree) api.Tree) api.Tree { return f(sample()) }
	for i, tree := range []api.Tree{
		nil, {}, nested(17), Of(0, 16, nulls(1000)...), Leaf(4, 0, ""), Leaf(-1, 0, ""), Leaf(1, -1, ""), Leaf(1, api.MaxTag+1, ""), Leaf(0, 2, ""), Leaf(0, 16, ""), Leaf(0, 0, ""), Of(0, 2), Of(0, 15), Of(4, 16), Of(0, math.MaxInt),
		{{Tag: 16, Cons: true, Data: "x"}}, {{Tag: 5, Kids: []int{1}}, {Tag: 5}}, {{Tag: 5}, {Tag: 5}}, {{Tag: 16, Cons: true, Kids: []int{1}}}, {{Tag: 16, Cons: true, Kids: []int{0}}}, {{Tag: 16, Cons: true, Kids: []int{-1}}, {Tag: 5}},
		change(func(t api.Tree) api.Tree { return append(t, api.Node{Tag: 5}) }),
		change(func(t api.Tree) api.Tree { return t[:len(t)-1] }),
		change(func(t api.Tree) api.Tree { t[0].Kids = []int{1, 5, 4}; return t }),
		change(func(t api.Tree) api.Tree { t[0].Kids = []int{1, 4}; return t }),
		change(func(t api.Tree) api.Tree { t[0].Kids = []int{1, 4, 5, 5}; return t }),
		change(func(t api.Tree) api.Tree { t[0].Kids = []int{4, 5}; return t }),
		change(func(t api.Tree) api.Tree { t[1].Kids = []int{2}; return t }),
		change(func(t api.Tree) api.Tree { t[1].Kids = []int{2, 3, 4}; return t }),
		change(func(t api.Tree) api.Tree { t[5].Kids = []int{6, 7}; return t }),
		change(func(t api.Tree) api.Tree { t[5].Kids = []int{math.MaxInt}; return t }),
		change(func(t api.Tree) api.Tree { t[8].Data = "x"; return t }),
		change(func(t api.Tree) api.Tree { t[6].Data = "x"; return t }),
		change(func(t api.Tree) api.Tree { t[6].Cons = false; return t }),
	} {
		if Right(tree) || Size(tree) != 0 || Depth(tree) != 0 || len(Sub(tree, 0)) != 0 {
			t.Errorf("%d: %v is right", i, tree)
		}
		if s, err := Encode(tree); s != "" || err != api.ErrArg {
			t.Errorf("Encode(%v) = %x, %d", tree, s, err)
		}
		for _, kid := range Kids(tree) {
			if len(kid) != 0 {
				t.Errorf("Kids(%v)", tree)
			}
		}
	}
}

// P20.2
func TestEncode(t *testing.T) {
	for _, c := range []struct {
		tree api.Tree
		want string
	}{
		{Of(0, 16, Leaf(0, 2, "\x05")), "30 03 02 01 05"}, {null(), "05 00"}, {Of(2, 31), "bf 1f 00"},
		{sample(), "30 17 31 06 02 01 01 bf 28 00 04 03 61 62 63 e3 08 64 04 05 00 05 00 05 00"},
	} {
		got, err := Encode(c.tree)
		if got != un(c.want) || err != api.OK || Size(c.tree) != len(got) {
			t.Errorf("Encode(%v) = %x, %d", c.tree, got, err)
		}
		if back, fault := tlv.Decode(got); !reflect.DeepEqual(back, c.tree) || fault.Code != api.OK {
			t.Errorf("Decode of %x", got)
		}
	}
	long := strings.Repeat("x", 65531)
	if s, err := Encode(Leaf(0, 4, long)); len(s) != api.MaxSize || err != api.OK || Size(Leaf(0, 4, long)) != api.MaxSize {
		t.Errorf("Encode of the longest: %d", err)
	}
	for _, tree := range []api.Tree{Leaf(0, 4, long+"x"), Leaf(0, 4, long+"xxxxxxx"), Of(0, 16, Leaf(0, 4, long)), Of(0, 16, Of(0, 17, Leaf(0, 4, strings.Repeat("x", 200000)), null())), Of(0, 16, Leaf(0, 4, long[:40000]), Leaf(0, 4, long[:40000]))} {
		if s, err := Encode(tree); s != "" || err != api.ErrSize || Size(tree) != 0 || Depth(tree) == 0 {
			t.Errorf("Encode of %d nodes: %d", len(tree), err)
		}
	}
}

// P20.2
func TestDepth(t *testing.T) {
	for _, c := range []struct {
		tree api.Tree
		want int
	}{{null(), 1}, {sample(), 4}, {nested(16), 16}, {Of(0, 16, null(), nested(5), null()), 6}, {Of(0, 16), 1}, {nested(17), 0}} {
		if got := Depth(c.tree); got != c.want {
			t.Errorf("Depth(%v) = %d", c.tree, got)
		}
	}
}

// P20.3
func TestSubAndKids(t *testing.T) {
	s := sample()
	for i, want := range []api.Tree{s, Of(0, 17, Leaf(0, 2, "\x01"), Of(2, 40)), Leaf(0, 2, "\x01"), Of(2, 40), Leaf(0, 4, "abc"), Of(3, 3, Of(1, 4, null(), null()), null()), Of(1, 4, null(), null()), null(), null(), null()} {
		if got := Sub(s, i); !reflect.DeepEqual(got, want) {
			t.Errorf("Sub %d = %v", i, got)
		}
	}
	for _, i := range []int{-1, 10, math.MaxInt, math.MinInt} {
		if len(Sub(s, i)) != 0 {
			t.Errorf("Sub %d", i)
		}
	}
	kids := Kids(s)
	if len(kids) != 3 || !reflect.DeepEqual(kids[0], Sub(s, 1)) || !reflect.DeepEqual(kids[1], Sub(s, 4)) || !reflect.DeepEqual(kids[2], Sub(s, 5)) {
		t.Errorf("Kids = %v", kids)
	}
	deepest := nested(16)
	if !reflect.DeepEqual(Sub(deepest, 0), deepest) || !reflect.DeepEqual(Sub(deepest, 5), nested(11)) || !reflect.DeepEqual(Kids(deepest), []api.Tree{nested(15)}) {
		t.Error("Sub of a deep tree")
	}
	if len(Kids(nil)) != 0 || len(Kids(null())) != 0 {
		t.Error("Kids of nothing")
	}
	kids[2][0].Kids[0] = 99
	Sub(s, 0)[0].Kids[0] = 99
	if !reflect.DeepEqual(s, sample()) {
		t.Error("a result shares a list with the argument")
	}
}

func random(r *rand.Rand, depth int) api.Tree {
	if depth < 16 && r.Intn(3) > 0 {
		var parts []api.Tree
		for range r.Intn(5) {
			parts = append(parts, random(r, depth+1))
		}
		return Of([]int{0, 1, 2, 3}[r.Intn(4)], 16+r.Intn(2), parts...)
	}
	return []api.Tree{null(), Leaf(0, 2, "\x00"), Leaf(0, 4, strings.Repeat("y", r.Intn(300))), Leaf(2, r.Intn(api.MaxTag+1), "\x80")}[r.Intn(4)]
}

// P20.4
func TestInverses(t *testing.T) {
	r := rand.New(rand.NewSource(1))
	for range 1000 {
		tree := random(r, 1)
		if len(tree) > api.MaxNodes {
			continue
		}
		s, err := Encode(tree)
		if err == api.ErrSize {
			continue
		}
		back, fault := tlv.Decode(s)
		if err != api.OK || fault.Code != api.OK || !reflect.DeepEqual(back, tree) || !Right(back) {
			t.Fatalf("%v", tree)
		}
		if tree[0].Cons && !reflect.DeepEqual(Of(tree[0].Class, tree[0].Tag, Kids(tree)...), tree) {
			t.Fatalf("Of the kids of %v", tree)
		}
	}
}
