package image

import (
	"election/api"
)

const (
	sideBytes   = 2 // of a side
	headerBytes = 2 * sideBytes
	fullByte    = 255 // of a length that continues in the next byte
)

// Encode returns the sides of i and the lengths of its runs of equal bits.
func Encode(i api.Image) []byte {
	if !Valid(i) {
		return nil
	}
	code := appendSide(appendSide(nil, i.W), i.H)
	length, on := 0, false
	for n := range i.W * i.H {
		if isFilled(i, n) != on {
			code = appendLength(code, length)
			length, on = 0, !on
		}
		length++
	}
	return appendLength(code, length)
}

// Decode returns the valid image whose encoding is b, and true, or the zero Image and false if there is none.
func Decode(b []byte) (api.Image, bool) {
	if len(b) < headerBytes {
		return api.Image{}, false
	}
	i, err := New(sideOf(b), sideOf(b[sideBytes:]))
	if err != api.OK || !setRuns(i, b[headerBytes:]) {
		return api.Image{}, false
	}
	return i, true
}

// setRuns sets the runs of bits whose lengths are given, and reports whether the lengths are those that Encode writes for an image of this size.
func setRuns(i api.Image, code []byte) bool {
	count := i.W * i.H
	n, on := 0, false
	for n < count {
		length, used := firstLength(code)
		first := n == 0 && !on // only this run may be empty
		if used == 0 || length > count-n || length == 0 && !first {
			return false
		}
		for range length {
			set(i, n, on)
			n++
		}
		code, on = code[used:], !on
	}
	return len(code) == 0
}

func appendSide(code []byte, side int) []byte { return append(code, byte(side>>byteBits), byte(side)) }

// sideOf returns the side at the start of code.
func sideOf(code []byte) int { return int(code[0])<<byteBits | int(code[1]) }

func appendLength(code []byte, length int) []byte {
	for ; length >= fullByte; length -= fullByte {
		code = append(code, fullByte)
	}
	return append(code, byte(length))
}

// firstLength returns the length at the start of code, and the number of its bytes, which is 0 if there is none.
func firstLength(code []byte) (length, used int) {
	for k, b := range code {
		length += int(b)
		if b != fullByte {
			return length, k + 1
		}
	}
	return 0, 0
}
