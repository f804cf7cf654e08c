// Package digits is layer 2, hexadecimal and decimal text: see ../../shared/doc/02-digits.md.
package digits

// mostDigits is the greatest number of decimal digits that Dec writes and Undec reads.
const mostDigits = 18

const upper = "0123456789ABCDEF"

// Hex returns two hexadecimal digits for each byte of s.
func Hex(s string) string {
	out := make([]byte, 2*len(s))
	for i := range len(s) {
		out[2*i] = upper[s[i]>>4]
		out[2*i+1] = upper[s[i]&15]
	}
	return string(out)
}

// Unhex returns the bytes whose Hex is t.
func Unhex(t string) (string, bool) {
	if len(t)%2 != 0 {
		return "", false
	}
	out := make([]byte, len(t)/2)
	for i := range len(out) {
		high, low := Value(t[2*i]), Value(t[2*i+1])
		if high < 0 || low < 0 {
			return "", false
		}
		out[i] = byte(16*high + low)
	}
	return string(out), true
}

// Dec returns n in width decimal digits.
func Dec(n, width int) string {
	if n < 0 || width < 1 || width > mostDigits {
		return ""
	}
	var all [mostDigits]byte
	for i := range width {
		all[width-1-i] = byte('0' + n%10)
		n /= 10
	}
	if n > 0 {
		return ""
	}
	return string(all[:width])
}

// Undec returns the number with the decimal digits t.
func Undec(t string) (int, bool) {
	if len(t) < 1 || len(t) > mostDigits {
		return 0, false
	}
	n := 0
	for i := range len(t) {
		if t[i] < '0' || t[i] > '9' {
			return 0, false
		}
		n = 10*n + int(t[i]-'0')
	}
	return n, true
}

// Num returns n in decimal, without leading zeros.
func Num(n int) string {
	var all [20]byte
	at := len(all)
	// The smallest integer has no positive counterpart, so digits are taken from the negative one.
	rest := n
	if rest > 0 {
		rest = -rest
	}
	for rest != 0 || at == len(all) {
		at--
		all[at] = byte('0' - rest%10)
		rest /= 10
	}
	if n < 0 {
		at--
		all[at] = '-'
	}
	return string(all[at:])
}

// Unnum returns the number whose Num is t.
func Unnum(t string) (int, bool) {
	if len(t) > 20 {
		return 0, false
	}
	// Arithmetic wraps around for numbers that are too great; the comparison with Num rejects them.
	n := 0
	for i := range len(t) {
		if t[i] >= '0' && t[i] <= '9' {
			n = 10*n - int(t[i]-'0')
		}
	}
	if t != "" && t[0] != '-' {
		n = -n
	}
	if Num(n) != t {
		return 0, false
	}
	return n, true
}

// Value returns the value of a hexadecimal digit, or -1.
func Value(c byte) int {
	switch {
	case c >= '0' && c <= '9':
		return int(c - '0')
	case c >= 'A' && c <= 'F':
		return int(c-'A') + 10
	}
	return -1
}
