package lex

import (
	"math/rand"
	"regexp"
	"slices"
	"strings"
	"testing"

	"election/api"
)

const numberPattern = `(?:0|[1-9][0-9]{0,5})`

var (
	blankPattern    = regexp.MustCompile(`\A(?:[ \t\n\r]|#[^\n]*)*`)
	tokenPatterns   = [...]*regexp.Regexp{nil, regexp.MustCompile(`\A[a-z][a-z0-9-]*`), regexp.MustCompile(`\A` + numberPattern), regexp.MustCompile(`\A"(?:[ !#-\[\]-~]|\\["\\])*"`), regexp.MustCompile(`\A[{};,/]`)}
	followerPattern = regexp.MustCompile(`\A[a-z0-9-]`)
	escapePattern   = regexp.MustCompile(`\\(["\\])`)
	barePattern     = regexp.MustCompile(`\A(?:[a-z][a-z0-9-]*|` + numberPattern + `|` + numberPattern + `/` + numberPattern + `)\z`)
)

// wantToken finds the token at a place of a text with regular expressions, and its length; the kind is 0 if there is none.
func wantToken(text string, place int) (api.Token, int) {
	line := 1 + strings.Count(text[:place], "\n")
	rest := text[place:]
	if rest == "" {
		return api.Token{Kind: api.TokenEnd, Line: line}, 0
	}
	for kind := api.TokenWord; kind <= api.TokenMark; kind++ {
		found := tokenPatterns[kind].FindString(rest)
		if found == "" || kind == api.TokenNumber && followerPattern.MatchString(rest[len(found):]) {
			continue
		}
		content := found
		if kind == api.TokenString {
			content = escapePattern.ReplaceAllString(found[1:len(found)-1], "$1")
		}
		return api.Token{Kind: kind, Text: content, Line: line}, len(found)
	}
	return api.Token{Line: line}, 0
}

func wantAll(text string) ([]api.Token, api.Fault) {
	var tokens []api.Token
	for place := 0; ; {
		place += len(blankPattern.FindString(text[place:]))
		token, length := wantToken(text, place)
		if token.Kind == 0 {
			return nil, api.Fault{Err: api.ErrSyntax, Line: token.Line}
		}
		tokens = append(tokens, token)
		if token.Kind == api.TokenEnd {
			return tokens, api.Fault{}
		}
		place += length
	}
}

func compareAll(t *testing.T, text string) {
	t.Helper()
	want, wantFault := wantAll(text)
	got, fault := All(text)
	if fault != wantFault || !slices.Equal(got, want) {
		t.Fatalf("All(%q) is %v, %v, want %v, %v", preview(text), got, fault, want, wantFault)
	}
}

// each calls visit with every text of at most that many bytes of the alphabet.
func each(alphabet string, length int, prefix string, visit func(text string)) {
	visit(prefix)
	if length == 0 {
		return
	}
	for i := range len(alphabet) {
		each(alphabet, length-1, prefix+alphabet[i:i+1], visit)
	}
}

func TestAllOfShortTexts(t *testing.T) {
	each("a01-\"\\#\n ;A", 4, "", func(text string) { compareAll(t, text) })
	each("b09-", 8, "", func(text string) { compareAll(t, text) })
	each("\"\\\n#c", 6, "", func(text string) { compareAll(t, text) })
	each("/10", 9, "", func(text string) { compareAll(t, text) })
}

// TestAllOfBytes puts every byte, and every pair of bytes, at places of all kinds.
func TestAllOfBytes(t *testing.T) {
	for _, frame := range [][2]string{{"", ""}, {"a", "b"}, {"a", ""}, {"1", ""}, {"1", "2"}, {"0", ""}, {"\"", "\""}, {"\"\\", "\""}, {"\"a", "b\"c"}, {"#", "\na"}, {"\n", "\n{"}, {";", ";"}} {
		for first := range 256 {
			compareAll(t, frame[0]+string([]byte{byte(first)})+frame[1])
			for second := range 256 {
				compareAll(t, frame[0]+string([]byte{byte(first), byte(second)})+frame[1])
			}
		}
	}
}

// TestAllOfRandomTexts joins pieces, most of them valid, to texts of up to the greatest length.
func TestAllOfRandomTexts(t *testing.T) {
	valid := []string{"a", "contest", "k-9", "0", "10", "999999", "1/20", "\"\"", "\"b c\"", "\"\\\\\\\"\"", "{", "}", ";", ",", " ", "\n", "\t", "\r\n", "# \"x\n", "#\xff{\n"}
	wrong := []string{"A", "007", "12b", "\"\n\"", "\"", "\"\\n\"", "-", "\x00", "é", "1234567", "#"}
	random := rand.New(rand.NewSource(6))
	for range 3000 {
		var text strings.Builder
		for limit := random.Intn(300); text.Len() < limit; {
			if random.Intn(100) == 0 {
				text.WriteString(wrong[random.Intn(len(wrong))])
			}
			text.WriteString(valid[random.Intn(len(valid))])
			if random.Intn(3) > 0 {
				text.WriteString(" ")
			}
		}
		compareAll(t, text.String())
	}
	for range 5 {
		var text strings.Builder
		for text.Len() < api.MaxText-20 {
			text.WriteString(valid[random.Intn(len(valid))] + " ")
		}
		if _, fault := All(text.String()); fault != (api.Fault{}) {
			t.Error("a long text has the fault", fault)
		}
		compareAll(t, text.String())
	}
}

func compareBare(t *testing.T, s string) {
	t.Helper()
	if got, want := Bare(s), barePattern.MatchString(s); got != want {
		t.Fatalf("Bare(%q) is %v", preview(s), got)
	}
}

func TestBareOfShortTexts(t *testing.T) {
	each("a01-/ A\"", 5, "", func(s string) { compareBare(t, s) })
	each("/10", 9, "", func(s string) { compareBare(t, s) })
}

// TestBareOfBytes puts every byte at every place of values that are bare.
func TestBareOfBytes(t *testing.T) {
	for _, s := range []string{"a", "ab-1", "0", "12", "999999", "1/20", "999999/123456"} {
		for place := range len(s) + 1 {
			for value := range 256 {
				c := string([]byte{byte(value)})
				compareBare(t, s[:place]+c+s[place:])
				if place < len(s) {
					compareBare(t, s[:place]+c+s[place+1:])
				}
			}
		}
	}
}
