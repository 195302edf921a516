// Package wide is layer 1: whole numbers of 128 bits: see DOC.md and doc/01-wide.md.
package wide

import (
	"cmp"
	"math/bits"

	"zellige/api"
)

// textRoom is the length of the longest text, that of -2^127: a sign and 39 digits.
const textRoom = 40

// Of is n as a wide.
func Of(n int64) api.Wide {
	// The shift keeps the sign: all bits of Hi are n's highest one.
	return api.Wide{Hi: n >> 63, Lo: uint64(n)}
}

// Add is a + b, modulo 2^128.
func Add(a, b api.Wide) api.Wide {
	lo, carry := bits.Add64(a.Lo, b.Lo, 0)
	hi, _ := bits.Add64(uint64(a.Hi), uint64(b.Hi), carry)
	return api.Wide{Hi: int64(hi), Lo: lo}
}

// Sub is a - b, modulo 2^128.
func Sub(a, b api.Wide) api.Wide {
	lo, borrow := bits.Sub64(a.Lo, b.Lo, 0)
	hi, _ := bits.Sub64(uint64(a.Hi), uint64(b.Hi), borrow)
	return api.Wide{Hi: int64(hi), Lo: lo}
}

// Neg is -a, modulo 2^128: -2^127 stays what it is.
func Neg(a api.Wide) api.Wide {
	return Sub(api.Wide{}, a)
}

// Mul is a times b.
func Mul(a, b int64) api.Wide {
	hi, lo := bits.Mul64(uint64(a), uint64(b))
	// A factor below nought was taken for one greater by 2^64: the other one is 2^64 times too much in the product.
	if a < 0 {
		hi -= uint64(b)
	}
	if b < 0 {
		hi -= uint64(a)
	}
	return api.Wide{Hi: int64(hi), Lo: lo}
}

// Sign is -1, 0, 1 for a below, at, above nought.
func Sign(a api.Wide) int {
	return Cmp(a, api.Wide{})
}

// Cmp is -1, 0, 1 for a below, at, above b.
func Cmp(a, b api.Wide) int {
	if a.Hi != b.Hi {
		return cmp.Compare(a.Hi, b.Hi)
	}
	return cmp.Compare(a.Lo, b.Lo)
}

// Small is a as a number of 64 bits, if it is one.
func Small(a api.Wide) (int64, bool) {
	n := int64(a.Lo)
	if Of(n) != a {
		return 0, false
	}
	return n, true
}

// Show is a in decimal digits.
func Show(a api.Wide) string {
	hi, lo := magnitude(a)
	var text [textRoom]byte
	first := textRoom
	// Nought has a digit, too.
	for first == textRoom || hi != 0 || lo != 0 {
		var digit uint64
		hi, lo, digit = divTen(hi, lo)
		first--
		text[first] = '0' + byte(digit)
	}
	if a.Hi < 0 {
		first--
		text[first] = '-'
	}
	return string(text[first:])
}

// Parse is the wide whose Show is s.
func Parse(s string) (api.Wide, api.Errno) {
	if len(s) > textRoom {
		return api.Wide{}, api.ErrForm
	}
	a := read(s)
	// No two wides have one text, so that this one look refuses noughts ahead, other signs, and numbers without room.
	if Show(a) != s {
		return api.Wide{}, api.ErrForm
	}
	return a, api.OK
}

// magnitude is how much a is, without its sign, as two words without signs: there 2^127 has room.
func magnitude(a api.Wide) (hi, lo uint64) {
	if a.Hi < 0 {
		a = Neg(a)
	}
	return uint64(a.Hi), a.Lo
}

// divTen is a number of two words divided by ten, and what is left.
func divTen(hi, lo uint64) (qhi, qlo, rest uint64) {
	qhi, rest = hi/10, hi%10
	qlo, rest = bits.Div64(rest, lo, 10)
	return qhi, qlo, rest
}

// read is the number of a text of digits, modulo 2^128; of another text it is any number.
func read(s string) api.Wide {
	below := s != "" && s[0] == '-'
	if below {
		s = s[1:]
	}
	var hi, lo uint64
	for i := 0; i < len(s); i++ {
		hi, lo = timesTen(hi, lo, uint64(s[i]-'0'))
	}
	a := api.Wide{Hi: int64(hi), Lo: lo}
	if below {
		return Neg(a)
	}
	return a
}

// timesTen is ten times a number of two words, and more, modulo 2^128.
func timesTen(hi, lo, more uint64) (uint64, uint64) {
	carry, low := bits.Mul64(lo, 10)
	low, up := bits.Add64(low, more, 0)
	return hi*10 + carry + up, low
}
