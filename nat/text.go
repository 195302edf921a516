package nat

import (
	"strings"

	"zellige/api"
)

// A piece is a number of pieceDigits digits, below pieceUnit: the most that a word has room for.
const (
	pieceDigits = 9
	pieceUnit   = 1_000_000_000
)

// Show is a in decimal digits, without noughts ahead.
func Show(a api.Nat) string {
	pieces := piecesOf(a)
	if len(pieces) == 0 {
		return "0"
	}
	text := make([]byte, len(pieces)*pieceDigits)
	end := len(text)
	for _, piece := range pieces {
		for range pieceDigits {
			end--
			text[end] = '0' + byte(piece%10)
			piece /= 10
		}
	}
	return strings.TrimLeft(string(text), "0")
}

// Parse reads what Show has written, of up to MaxDigits digits.
func Parse(s string) (api.Nat, api.Errno) {
	if !isShow(s) {
		return nil, api.ErrForm
	}
	if len(s) > api.MaxDigits {
		return nil, api.ErrLong
	}
	var n api.Nat
	var piece uint32
	for i := range len(s) {
		piece = piece*10 + uint32(s[i]-'0')
		// Pieces are counted from the end: the first one may be shorter.
		if (len(s)-1-i)%pieceDigits == 0 {
			n = withPiece(n, piece)
			piece = 0
		}
	}
	return n, api.OK
}

// piecesOf is a in pieces, the lowest first; the last one is not nought.
func piecesOf(a api.Nat) []uint32 {
	var pieces []uint32
	rest := Trim(a)
	for len(rest) > 0 {
		pieces = append(pieces, divideByWord(rest, pieceUnit))
		rest = strip(rest)
	}
	return pieces
}

// withPiece is n with a piece more behind it, in n's own memory as far as that goes.
func withPiece(n api.Nat, piece uint32) api.Nat {
	carry := uint64(piece)
	for i, x := range n {
		carry += uint64(x) * pieceUnit
		n[i] = uint32(carry)
		carry >>= wordBits
	}
	if carry != 0 {
		n = append(n, uint32(carry))
	}
	return n
}

// isShow tells whether s is digits, at least one, without noughts ahead.
func isShow(s string) bool {
	if s == "" || len(s) > 1 && s[0] == '0' {
		return false
	}
	for i := range len(s) {
		if s[i] < '0' || s[i] > '9' {
			return false
		}
	}
	return true
}
