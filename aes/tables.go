package aes

import (
	"claviger/field"
	"claviger/sbox"
)

// size is the number of bytes of a block.
const size = 16

type block [size]byte

// tables hold, for every byte, its substitutes and its products with the factors of a round.
type tables struct {
	sub, back                  [256]byte
	by2, by9, by11, by13, by14 [256]byte
}

func makeTables() tables {
	var t tables
	copy(t.sub[:], sbox.Table())
	for i := range len(t.sub) {
		a := byte(i)
		a2 := field.Twice(a)
		a4 := field.Twice(a2)
		a8 := field.Twice(a4)
		t.back[t.sub[i]] = a
		t.by2[i] = a2
		t.by9[i] = a8 ^ a
		t.by11[i] = a8 ^ a2 ^ a
		t.by13[i] = a8 ^ a4 ^ a
		t.by14[i] = a8 ^ a4 ^ a2
	}
	return t
}

// below returns the index of the byte j rows below the one at index i, in the same column.
func below(i, j int) int {
	return i&^3 | (i+j)&3
}

func add(s, k block) block {
	for i := range size {
		s[i] ^= k[i]
	}
	return s
}

// do performs a round. The byte in row r of a column comes from r columns further on, at 5 times its index.
func (t *tables) do(s, k block, last bool) block {
	var a block
	for i := range size {
		a[i] = t.sub[s[5*i%size]]
	}
	if last {
		return add(a, k)
	}
	for i := range size {
		b := a[below(i, 1)]
		k[i] ^= t.by2[a[i]^b] ^ b ^ a[below(i, 2)] ^ a[below(i, 3)]
	}
	return k
}

// undo undoes a round; bytes go back to the index at which do found them.
func (t *tables) undo(s, k block, last bool) block {
	s = add(s, k)
	a := s
	if !last {
		for i := range size {
			a[i] = t.by14[s[i]] ^ t.by11[s[below(i, 1)]] ^ t.by13[s[below(i, 2)]] ^ t.by9[s[below(i, 3)]]
		}
	}
	var out block
	for i := range size {
		out[5*i%size] = t.back[a[i]]
	}
	return out
}
