package nat

import (
	"strconv"

	"election/api"
)

// Decimal digits are converted in chunks of the most that fit into a limb.
const (
	chunkDigits = 9
	chunkBase   = 1000000000
)

// maxPower is the greatest exponent of Pow10.
const maxPower = 60

// Pow10 returns 10 to the power of n, or 0 if n is not from 0 to 60.
func Pow10(n int) api.Nat {
	if n < 0 || n > maxPower {
		return nil
	}
	power := api.Nat{1}
	for range n {
		power = mulAdd(power, 10, 0)
	}
	return power
}

// mulAdd returns a * factor + addend in the memory of a, or in new memory if a has too little of it.
func mulAdd(a api.Nat, factor, addend uint32) api.Nat {
	carry := uint64(addend)
	for i, limb := range a {
		carry += uint64(limb) * uint64(factor)
		a[i] = uint32(carry)
		carry >>= limbBits
	}
	if carry != 0 {
		a = append(a, uint32(carry))
	}
	return a
}

// Text returns a in decimal, without leading zeros.
func Text(a api.Nat) string {
	rest := Norm(a)
	if len(rest) == 0 {
		return "0"
	}
	var chunks []uint32
	for len(rest) > 0 {
		chunks = append(chunks, divideByWord(rest, chunkBase))
		rest = trim(rest)
	}
	last := len(chunks) - 1
	text := strconv.AppendUint(nil, uint64(chunks[last]), 10)
	for i := last - 1; i >= 0; i-- {
		text = appendChunk(text, chunks[i])
	}
	return string(text)
}

// appendChunk appends all digits of a chunk, with leading zeros.
func appendChunk(text []byte, chunk uint32) []byte {
	for unit := uint32(chunkBase / 10); unit > 0; unit /= 10 {
		text = append(text, '0'+byte(chunk/unit%10))
	}
	return text
}

// Parse returns the Nat whose Text is s, and true, or nil and false if there is none.
func Parse(s string) (api.Nat, bool) {
	if !isNumeral(s) {
		return nil, false
	}
	// The first chunk is the short one, so that all others have chunkDigits digits.
	end := len(s) % chunkDigits
	a := Of(uint64(chunkValue(s[:end])))
	for ; end < len(s); end += chunkDigits {
		a = mulAdd(a, chunkBase, chunkValue(s[end:end+chunkDigits]))
	}
	return a, true
}

func isNumeral(s string) bool {
	for i := range len(s) {
		if s[i] < '0' || s[i] > '9' {
			return false
		}
	}
	return len(s) == 1 || len(s) > 1 && s[0] != '0'
}

// chunkValue returns the number that at most chunkDigits digits denote; without digits, 0.
func chunkValue(digits string) uint32 {
	var value uint32
	for i := range len(digits) {
		value = value*10 + uint32(digits[i]-'0')
	}
	return value
}
