// Package octets is layer 1, byte strings: see ../../shared/doc/01-octets.md.
package octets

import "claviger/api"

// Put returns the width least significant bytes of n, the most significant first.
func Put(n uint64, width int) string {
	var all [8]byte
	if width < 1 || width > len(all) {
		return ""
	}
	for i := range len(all) {
		all[i] = byte(n >> (8 * (len(all) - 1 - i)))
	}
	return string(all[len(all)-width:])
}

// Get returns the number with the bytes s, the most significant first.
func Get(s string) (uint64, bool) {
	if len(s) < 1 || len(s) > 8 {
		return 0, false
	}
	n := uint64(0)
	for i := range len(s) {
		n = n<<8 | uint64(s[i])
	}
	return n, true
}

// Cut returns n bytes of s from offset at on, or as many as there are.
func Cut(s string, at, n int) string {
	if at < 0 || at >= len(s) || n < 1 {
		return ""
	}
	if n > len(s)-at {
		n = len(s) - at
	}
	return s[at : at+n]
}

// Pieces splits s into pieces of n bytes; the last one may be shorter.
func Pieces(s string, n int) []string {
	if n < 1 {
		return nil
	}
	var l []string
	for len(s) > n {
		l = append(l, s[:n])
		s = s[n:]
	}
	if s != "" {
		l = append(l, s)
	}
	return l
}

// Zeros returns n zero bytes.
func Zeros(n int) string {
	if n < 1 || n > api.MaxBlob {
		return ""
	}
	return string(make([]byte, n))
}

// Xor returns the bytewise exclusive or, as long as the shorter argument.
func Xor(a, b string) string {
	n := min(len(a), len(b))
	out := make([]byte, n)
	for i := range n {
		out[i] = a[i] ^ b[i]
	}
	return string(out)
}

// Join returns the concatenation of all parts.
func Join(parts ...string) string {
	n := 0
	for _, p := range parts {
		n += len(p)
	}
	out := make([]byte, n)
	at := 0
	for _, p := range parts {
		at += copy(out[at:], p)
	}
	return string(out)
}

// Pad extends s with zero bytes to a multiple of n bytes.
func Pad(s string, n int) string {
	if n < 1 || n > 65535 || len(s)%n == 0 {
		return s
	}
	return Join(s, Zeros(n-len(s)%n))
}

// Trim returns s without its leading zero bytes.
func Trim(s string) string {
	for i := range len(s) {
		if s[i] != 0 {
			return s[i:]
		}
	}
	return ""
}
