package nat

import "zellige/api"

// headBits is how many bits a head has: the first bits of a number, by which several divisions are foreseen at once.
const headBits = 64

// foreseen is what several divisions, one after the other, come to: of a and b they leave
// forA[0] a - forB[0] b and forB[1] b - forA[1] a, if their number is even, else both with their signs turned.
// Each factor is below 2^32, so that a word times a factor, and a carry, have room in two words.
type foreseen struct {
	forA, forB [2]uint64
	even       bool
}

// Gcd is the greatest number that divides both; of nought and a number it is that number.
func Gcd(a, b api.Nat) api.Nat {
	a, b = Trim(a), Trim(b)
	if Cmp(a, b) < 0 {
		a, b = b, a
	}
	for Bits(b) > headBits {
		a, b = nearer(a, b)
	}
	if len(b) == 0 {
		return a
	}
	return Of(gcdSmall(small(b), small(restOf(a, b))))
}

// nearer is two smaller numbers with the same greatest divisor, the first not below the second; a is not below b, and b has more bits than a head.
func nearer(a, b api.Nat) (api.Nat, api.Nat) {
	from := Bits(a) - headBits
	f := foresee(headAt(a, from), headAt(b, from))
	// Without a factor for b the heads tell of one division at most: that one is done at full length.
	if f.forB[0] == 0 {
		return b, restOf(a, b)
	}
	x := between(a, b, f.forA[0], f.forB[0], f.even)
	y := between(a, b, f.forA[1], f.forB[1], !f.even)
	return x, y
}

// foresee divides the heads of two numbers, as long as the numbers themselves would be divided alike, whatever comes behind their heads (Collins's condition); a's head has its highest bit set.
func foresee(a, b uint64) foreseen {
	f := foreseen{forA: [2]uint64{0, 1}}
	// The factors after one more division: these may be too great to be used.
	nextA, nextB := uint64(0), uint64(1)
	for b >= nextB && a-b >= f.forB[1]+nextB {
		times := a / b
		a, b = b, a%b
		f.forA[0], f.forA[1], nextA = f.forA[1], nextA, f.forA[1]+times*nextA
		f.forB[0], f.forB[1], nextB = f.forB[1], nextB, f.forB[1]+times*nextB
		f.even = !f.even
	}
	return f
}

// between is how far forA times a and forB times b lie apart; the first one is the greater if over is so, else the second. Both factors are below 2^32, and a has room for it.
func between(a, b api.Nat, forA, forB uint64, over bool) api.Nat {
	apart := make(api.Nat, len(a))
	var upA, upB, borrow uint64
	for i, x := range a {
		upA += forA * uint64(x)
		upB += forB * uint64(wordAt(b, i))
		more, less := upA, upB
		if !over {
			more, less = less, more
		}
		d := uint64(uint32(more)) - uint64(uint32(less)) - borrow
		apart[i] = uint32(d)
		borrow = d >> 63
		upA >>= wordBits
		upB >>= wordBits
	}
	return strip(apart)
}

// restOf is what is left of a divided by b; b is not nought.
func restOf(a, b api.Nat) api.Nat {
	_, rest, _ := DivMod(a, b)
	return rest
}

// headAt is the head of a, from that bit on.
func headAt(a api.Nat, from int) uint64 {
	i, shift := from/wordBits, from%wordBits
	low := uint64(wordAt(a, i+1))<<wordBits | uint64(wordAt(a, i))
	return low>>shift | uint64(wordAt(a, i+2))<<(headBits-shift)
}

// small is a as a head: a needs no more bits than that.
func small(a api.Nat) uint64 {
	return headAt(a, 0)
}

// gcdSmall is the greatest number that divides both.
func gcdSmall(a, b uint64) uint64 {
	for b != 0 {
		a, b = b, a%b
	}
	return a
}
