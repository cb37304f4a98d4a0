package syntax

import (
	"math/rand"
	"reflect"
	"regexp"
	"slices"
	"strconv"
	"strings"
	"testing"

	"election/api"
	"election/lex"
)

// In this file a token is written as a letter: e is the word election, w any other word, n a number, s a string; a mark is itself.
const letters = "ewns{};,/"

// The grammar is regular, so that an expression tells whether a list of tokens is a definition.
var definitionPattern = func() *regexp.Regexp {
	const value = `([ews]|n(/n)?)`
	const field = `[ew]` + value + `(,` + value + `)*;`
	const block = `[ew][ew]?\{(` + field + `)*\}`
	return regexp.MustCompile(`\Aes\{(` + block + `)*\}\z`)
}()

// ways complete every list of tokens that a definition can begin with.
var ways = []string{"", "es{}", "s{}", "{}", "}", "{}}", "}}", "w;}}", ";}}", "n;}}"}

// canBegin reports whether a definition can begin with these tokens.
func canBegin(tokens string) bool {
	return slices.ContainsFunc(ways, func(way string) bool { return definitionPattern.MatchString(tokens + way) })
}

// wantFault returns the index of the first token that cannot stand where it does, which may be the end, or -1 if there is none.
func wantFault(tokens string) int {
	for i := range len(tokens) {
		if !canBegin(tokens[:i+1]) {
			return i
		}
	}
	if !definitionPattern.MatchString(tokens) {
		return len(tokens)
	}
	return -1
}

// write returns a text that has these tokens, each in a line of its own, and what they stand for. No two words, numbers or strings of it are equal.
func write(tokens string) (text string, contents []string) {
	var lines strings.Builder
	for i := range len(tokens) {
		content, number := tokens[i:i+1], strconv.Itoa(i+1)
		written := content
		switch content {
		case "e":
			content = "election"
			written = content
		case "w":
			content = "w-" + number
			written = content
		case "n":
			content = number
			written = content
		case "s":
			content = " " + number
			written = "\"" + content + "\""
		}
		lines.WriteString(written + "\n")
		contents = append(contents, content)
	}
	return lines.String(), contents
}

// flatten returns what the tokens of a definition stand for, and checks that the lines of blocks and fields are those of their tokens, if each token has a line of its own.
func flatten(t *testing.T, s api.Source) []string {
	contents := []string{"election", s.Title, "{"}
	checkLine := func(name string, line int) {
		if line != len(contents)+1 {
			t.Fatalf("%q is in line %d, want %d", name, line, len(contents)+1)
		}
		contents = append(contents, name)
	}
	for _, b := range s.Blocks {
		checkLine(b.Kind, b.Line)
		if b.Name != "" {
			contents = append(contents, b.Name)
		}
		contents = append(contents, "{")
		for _, f := range b.Fields {
			checkLine(f.Key, f.Line)
			for i, v := range f.Values {
				if i > 0 {
					contents = append(contents, ",")
				}
				if above, below, ok := strings.Cut(v, "/"); ok {
					contents = append(contents, above, "/", below)
				} else {
					contents = append(contents, v)
				}
			}
			contents = append(contents, ";")
		}
		contents = append(contents, "}")
	}
	return append(contents, "}")
}

func compareParse(t *testing.T, tokens string) {
	t.Helper()
	text, contents := write(tokens)
	got, fault := Parse(text)
	if wrong := wantFault(tokens); wrong >= 0 {
		if !reflect.ValueOf(got).IsZero() || fault != (api.Fault{Err: api.ErrSyntax, Line: wrong + 1}) {
			t.Fatalf("Parse of %q is %v, %v, want a fault in line %d", tokens, got, fault, wrong+1)
		}
		return
	}
	if fault != (api.Fault{}) || !slices.Equal(flatten(t, got), contents) {
		t.Fatalf("Parse of %q is %v, %v", tokens, got, fault)
	}
}

// TestAllShortDefinitions has all lists of tokens that a definition can begin with, up to a length, and each of them with one more token of any kind and with a slash after that.
func TestAllShortDefinitions(t *testing.T) {
	var visit func(tokens string, more int)
	visit = func(tokens string, more int) {
		compareParse(t, tokens)
		for i := range len(letters) {
			longer := tokens + letters[i:i+1]
			if more > 0 && canBegin(longer) {
				visit(longer, more-1)
			} else {
				compareParse(t, longer)
				compareParse(t, longer+"/")
			}
		}
	}
	visit("", 9)
	visit("es{w{wn", 5)
	visit("es{ww{ws;en/n", 5)
	visit("es{w{}ww{wn;}", 4)
}

// TestChangedDefinitions removes, adds, changes and exchanges tokens of a long definition.
func TestChangedDefinitions(t *testing.T) {
	const tokens = "es{w{}ww{wn;ww,s,n/n,n;}e{ee;}we{ws,s;wn/n;}}"
	if wantFault(tokens) >= 0 {
		t.Fatal("the definition is not valid")
	}
	for i := range len(tokens) + 1 {
		compareParse(t, tokens[:i])
		for j := range len(letters) {
			compareParse(t, tokens[:i]+letters[j:j+1]+tokens[i:])
		}
		if i < len(tokens) {
			for j := range len(letters) {
				compareParse(t, tokens[:i]+letters[j:j+1]+tokens[i+1:])
			}
			for j := range i {
				compareParse(t, tokens[:j]+tokens[i:i+1]+tokens[j+1:i]+tokens[j:j+1]+tokens[i+1:])
			}
			compareParse(t, tokens[:i]+tokens[i+1:])
		}
	}
}

// TestChangedTexts changes bytes of texts, and compares the faults with those of lex.All and of the expression.
func TestChangedTexts(t *testing.T) {
	const alphabet = "ae19-/,;{}\" \n#\\A"
	random := rand.New(rand.NewSource(7))
	wrong := 0
	for range 20000 {
		text := []byte(example)
		for range 1 + random.Intn(3) {
			text[random.Intn(len(text))] = alphabet[random.Intn(len(alphabet))]
		}
		if compareText(t, string(text)) {
			wrong++
		}
	}
	if wrong < 5000 || wrong > 19000 {
		t.Error(wrong, "texts of 20000 are wrong")
	}
}

// compareText compares only whether there is a fault and which, and reports whether there is one.
func compareText(t *testing.T, text string) bool {
	t.Helper()
	tokens, want := lex.All(text)
	if want == (api.Fault{}) {
		if i := wantFault(shorten(tokens)); i >= 0 {
			want = api.Fault{Err: api.ErrSyntax, Line: tokens[i].Line}
		}
	}
	got, fault := Parse(text)
	if fault != want || fault != (api.Fault{}) && !reflect.ValueOf(got).IsZero() {
		t.Fatalf("Parse(%q) is %v, %v, want %v", text, got, fault, want)
	}
	return want != (api.Fault{})
}

// shorten writes tokens, without the end, as letters.
func shorten(tokens []api.Token) string {
	var short strings.Builder
	for _, token := range tokens[:len(tokens)-1] {
		switch {
		case token.Kind == api.TokenMark:
			short.WriteString(token.Text)
		case token.Kind == api.TokenWord && token.Text == "election":
			short.WriteString("e")
		default:
			short.WriteString("?wns"[token.Kind : token.Kind+1])
		}
	}
	return short.String()
}
