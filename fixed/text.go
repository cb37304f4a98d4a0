package fixed

import (
	"strings"

	"election/api"
	"election/nat"
)

const point = "."

// Text returns the number that a stands for in decimal, with exactly this many digits after the point and no point before no digits, or "" if digits is out of its range.
func Text(a api.Nat, digits int) string {
	one, ok := scale(digits)
	if !ok {
		return ""
	}
	if digits == 0 {
		return nat.Text(a)
	}
	whole, rest, _ := nat.Div(a, one)
	return nat.Text(whole) + point + fractionText(rest, one)
}

// fractionText returns the digits after the point of rest, which is less than one. Package nat writes no leading zeros, so a 1 stands before them and is cut off.
func fractionText(rest, one api.Nat) string { return nat.Text(nat.Add(one, rest))[1:] }

// Parse returns the Nat whose Text with these digits is s, and true, or nil and false if there is none.
func Parse(s string, digits int) (api.Nat, bool) {
	one, ok := scale(digits)
	if !ok {
		return nil, false
	}
	if digits == 0 {
		return nat.Parse(s)
	}
	wholeText, restText, _ := strings.Cut(s, point)
	if len(restText) != digits {
		return nil, false
	}
	whole, wholeOk := nat.Parse(wholeText)
	rest, restOk := parseFraction(restText, one)
	if !wholeOk || !restOk {
		return nil, false
	}
	return nat.Add(nat.Mul(whole, one), rest), true
}

// parseFraction is the inverse of fractionText, for as many digits as one has zeros. Package nat reads no leading zeros, so a 1 is put before them and subtracted.
func parseFraction(digits string, one api.Nat) (api.Nat, bool) {
	sum, ok := nat.Parse("1" + digits)
	if !ok {
		return nil, false
	}
	return nat.Sub(sum, one)
}
