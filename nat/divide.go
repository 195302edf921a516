package nat

import (
	"math/bits"

	"zellige/api"
)

// DivMod is a divided by b: the quotient without its fraction, and the rest.
func DivMod(a, b api.Nat) (api.Nat, api.Nat, api.Errno) {
	a, b = strip(a), strip(b)
	if len(b) == 0 {
		return nil, nil, api.ErrZero
	}
	if len(a) < len(b) {
		return nil, Trim(a), api.OK
	}
	if len(b) == 1 {
		quotient := Trim(a)
		rest := divideByWord(quotient, b[0])
		return strip(quotient), Of(uint64(rest)), api.OK
	}
	quotient, rest := divideLong(a, b)
	return strip(quotient), strip(rest), api.OK
}

// divideByWord puts the quotient in the place of a, and tells the rest.
func divideByWord(a api.Nat, d uint32) uint32 {
	var rest uint64
	for i := len(a) - 1; i >= 0; i-- {
		rest = rest<<wordBits | uint64(a[i])
		a[i] = uint32(rest / uint64(d))
		rest %= uint64(d)
	}
	return uint32(rest)
}

// divideLong divides a by b, word by word, as by hand; b has two words at least, and a no fewer.
func divideLong(a, b api.Nat) (quotient, rest api.Nat) {
	// With its highest bit set, the divisor's first words tell a word of the quotient all but exactly.
	shift := bits.LeadingZeros32(b[len(b)-1])
	divisor := shiftUp(b, shift)[:len(b)]
	rest = shiftUp(a, shift)
	quotient = make(api.Nat, len(a)-len(b)+1)
	for i := len(quotient) - 1; i >= 0; i-- {
		quotient[i] = takeOff(rest[i:i+len(b)+1], divisor)
	}
	shiftDown(rest, shift)
	return quotient, rest
}

// takeOff takes divisor off rest, which is one word longer, as often as it goes, and tells how often: less than 2^32 times.
func takeOff(rest, divisor api.Nat) uint32 {
	times := guess(rest, divisor)
	if subTimes(rest, divisor, times) {
		// The guess was one too high: what went below nought comes back.
		times--
		addBack(rest, divisor)
	}
	return times
}

// guess is how often divisor goes into rest, by their first words: right, or one too high.
func guess(rest, divisor api.Nat) uint32 {
	n := len(divisor)
	first, second := uint64(divisor[n-1]), uint64(divisor[n-2])
	head := uint64(rest[n])<<wordBits | uint64(rest[n-1])
	times, left := head/first, head%first
	for times>>wordBits != 0 || times*second > left<<wordBits|uint64(rest[n-2]) {
		times--
		left += first
		// Beyond one word, what is left is above all that the second word can ask for.
		if left>>wordBits != 0 {
			break
		}
	}
	return uint32(times)
}

// subTimes takes divisor off rest so many times, modulo what rest has room for, and tells whether that went below nought.
func subTimes(rest, divisor api.Nat, times uint32) bool {
	var carry uint64
	var borrow uint32
	for i, d := range divisor {
		carry += uint64(times) * uint64(d)
		rest[i], borrow = bits.Sub32(rest[i], uint32(carry), borrow)
		carry >>= wordBits
	}
	last := len(divisor)
	rest[last], borrow = bits.Sub32(rest[last], uint32(carry), borrow)
	return borrow != 0
}

// addBack adds divisor to rest, modulo what rest has room for.
func addBack(rest, divisor api.Nat) {
	var carry uint32
	for i, d := range divisor {
		rest[i], carry = bits.Add32(rest[i], d, carry)
	}
	rest[len(divisor)] += carry
}

// shiftUp is a times 2^shift, with one word more than a has; shift is below 32.
func shiftUp(a api.Nat, shift int) api.Nat {
	up := make(api.Nat, len(a)+1)
	var carry uint64
	for i, x := range a {
		carry |= uint64(x) << shift
		up[i] = uint32(carry)
		carry >>= wordBits
	}
	up[len(a)] = uint32(carry)
	return up
}

// shiftDown divides a by 2^shift, in its place; shift is below 32, and no bit gets lost.
func shiftDown(a api.Nat, shift int) {
	for i := range a {
		both := uint64(wordAt(a, i+1))<<wordBits | uint64(a[i])
		a[i] = uint32(both >> shift)
	}
}
