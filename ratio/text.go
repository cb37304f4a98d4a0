package ratio

import (
	"strings"

	"election/api"
	"election/nat"
)

// Text returns Num in decimal, followed by "/" and Den if Den is not 1, and preceded by "-" if a is negative.
func Text(a api.Ratio) string {
	a = normal(a)
	text := nat.Text(a.Num)
	if a.Neg {
		text = "-" + text
	}
	if nat.Cmp(a.Den, nat.Of(1)) != 0 {
		text += "/" + nat.Text(a.Den)
	}
	return text
}

// Parse returns the Ratio whose Text is s, and true, or the zero Ratio and false if there is none.
func Parse(s string) (api.Ratio, bool) {
	digits, neg := strings.CutPrefix(s, "-")
	numText, denText, fraction := strings.Cut(digits, "/")
	if !fraction {
		denText = "1"
	}
	num, numOk := nat.Parse(numText)
	den, denOk := nat.Parse(denText)
	a := api.Ratio{Neg: neg, Num: num, Den: den}
	// Only a Ratio in normal form is its own Text, and Text leaves out a Den of 1.
	if !numOk || !denOk || denText == "1" && fraction || !Valid(a) {
		return api.Ratio{}, false
	}
	return a, true
}
