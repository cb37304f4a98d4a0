package nat

import (
	"math/bits"

	"election/api"
)

// Div returns the quotient of a by b, rounded down, the remainder, and true; or nil, nil and false if b is 0.
func Div(a, b api.Nat) (q, r api.Nat, ok bool) {
	b = trim(b)
	switch {
	case len(b) == 0:
		return nil, nil, false
	case Cmp(a, b) < 0:
		return nil, Norm(a), true
	case len(b) == 1:
		q = Norm(a)
		rest := divideByWord(q, b[0])
		return trim(q), Of(uint64(rest)), true
	}
	q, r = divideLong(trim(a), b)
	return q, r, true
}

// divideByWord replaces a by its quotient by word, which is not 0, and returns the remainder.
func divideByWord(a api.Nat, word uint32) uint32 {
	var rest uint32
	for i := len(a) - 1; i >= 0; i-- {
		a[i], rest = bits.Div32(rest, a[i], word)
	}
	return rest
}

// divideLong is Knuth's algorithm D. Both arguments are in normal form, b has at least two limbs, and a is not less than b.
func divideLong(a, b api.Nat) (q, r api.Nat) {
	// With the top bit of the divisor set, an estimated digit is at most one too great (see divideStep).
	shift := bits.LeadingZeros32(b[len(b)-1])
	rest, divisor := shiftLeft(a, shift), shiftLeft(b, shift)[:len(b)]
	q = make(api.Nat, len(rest)-len(divisor))
	for i := len(q) - 1; i >= 0; i-- {
		q[i] = divideStep(rest[i:i+len(divisor)+1], divisor)
	}
	return trim(q), shiftRight(rest[:len(divisor)], shift)
}

// divideStep returns the digit rest / divisor and leaves the remainder in rest, which has one limb more than the divisor and is less than 2^32 times it.
func divideStep(rest, divisor api.Nat) uint32 {
	digit := estimate(rest[len(rest)-3:], divisor[len(divisor)-2:])
	if subtractProduct(rest, divisor, digit) {
		// The estimate saw two limbs of the divisor alone, and was one too great.
		addBack(rest, divisor)
		digit--
	}
	return digit
}

// estimate returns the quotient of three limbs by two, at most 2^32 - 1: the digit that the full division has, or one more.
func estimate(rest, divisor api.Nat) uint32 {
	high := uint64(rest[2])<<limbBits | uint64(rest[1])
	top := uint64(divisor[1])
	digit, left := high/top, high%top
	for digit>>limbBits != 0 || digit*uint64(divisor[0]) > left<<limbBits|uint64(rest[0]) {
		digit--
		left += top
		if left>>limbBits != 0 {
			// The left side of the comparison is now greater for certain, and would not fit into 64 bits.
			break
		}
	}
	return uint32(digit)
}

// subtractProduct subtracts digit times divisor from rest, modulo 2^32 to the power of rest's limbs, and reports whether rest was less.
func subtractProduct(rest, divisor api.Nat, digit uint32) bool {
	var carry uint64
	var borrow uint32
	for i, limb := range divisor {
		carry += uint64(digit) * uint64(limb)
		rest[i], borrow = bits.Sub32(rest[i], uint32(carry), borrow)
		carry >>= limbBits
	}
	last := len(divisor)
	rest[last], borrow = bits.Sub32(rest[last], uint32(carry), borrow)
	return borrow != 0
}

// addBack adds divisor to rest; the carry out of rest ends the borrow of subtractProduct.
func addBack(rest, divisor api.Nat) {
	var carry uint32
	for i, limb := range divisor {
		rest[i], carry = bits.Add32(rest[i], limb, carry)
	}
	rest[len(divisor)] += carry
}

// shiftLeft returns a times 2^shift, with one limb more than a; shift is less than 32.
func shiftLeft(a api.Nat, shift int) api.Nat {
	shifted := make(api.Nat, len(a)+1)
	for i, limb := range a {
		wide := uint64(limb) << shift
		shifted[i] |= uint32(wide)
		shifted[i+1] = uint32(wide >> limbBits)
	}
	return shifted
}

// shiftRight returns a / 2^shift, rounded down, in normal form; shift is less than 32.
func shiftRight(a api.Nat, shift int) api.Nat {
	shifted := make(api.Nat, len(a))
	var above uint32
	for i := len(a) - 1; i >= 0; i-- {
		wide := uint64(above)<<limbBits | uint64(a[i])
		shifted[i], above = uint32(wide>>shift), a[i]
	}
	return trim(shifted)
}
