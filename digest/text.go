package digest

import (
	"strings"

	"election/api"
)

const (
	hexDigits  = "0123456789abcdef"
	textLength = 64
)

// Text returns d as 64 hexadecimal digits, in lower case.
func Text(d api.Digest) string {
	text := make([]byte, 0, textLength)
	for _, b := range d {
		text = append(text, hexDigits[b>>4], hexDigits[b&15])
	}
	return string(text)
}

// Parse returns the digest whose Text is s, and true, or the zero digest and false if there is none.
func Parse(s string) (api.Digest, bool) {
	if len(s) != textLength {
		return api.Digest{}, false
	}
	var d api.Digest
	for i := range d {
		high := strings.IndexByte(hexDigits, s[2*i])
		low := strings.IndexByte(hexDigits, s[2*i+1])
		if high < 0 || low < 0 {
			return api.Digest{}, false
		}
		d[i] = byte(high<<4 | low)
	}
	return d, true
}
