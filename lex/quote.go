package lex

const (
	quote  = '"'
	escape = '\\'
)

// Quote returns the string token that stands for s, and true, or "" and false if there is none.
func Quote(s string) (string, bool) {
	token := make([]byte, 0, len(s)+2)
	token = append(token, quote)
	for i := range len(s) {
		if !isPrintable(s[i]) {
			return "", false
		}
		if isSpecial(s[i]) {
			token = append(token, escape)
		}
		token = append(token, s[i])
	}
	return string(append(token, quote)), true
}

// unquote returns what the string token at the start of s stands for, and its length in s, or "" and 0 if that token is not valid. The first byte of s is a quote.
func unquote(s string) (content string, length int) {
	var inside []byte
	for i := 1; i < len(s); i++ {
		if s[i] == quote {
			return string(inside), i + 1
		}
		if s[i] == escape {
			i++
			if i == len(s) || !isSpecial(s[i]) {
				return "", 0
			}
		}
		if !isPrintable(s[i]) {
			return "", 0
		}
		inside = append(inside, s[i])
	}
	return "", 0
}

// isSpecial reports whether c needs an escape within a string.
func isSpecial(c byte) bool { return c == quote || c == escape }

func isPrintable(c byte) bool { return c >= ' ' && c <= '~' }
