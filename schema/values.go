package schema

import (
	"slices"
	"strconv"
	"strings"

	"election/api"
	"election/lex"
	"election/ratio"
)

// isText reports whether s has at most so many bytes, all of them printable.
func isText(s string, most int) bool {
	if len(s) > most {
		return false
	}
	_, ok := lex.Quote(s)
	return ok
}

func isName(s string) bool { return s != "" && isText(s, api.MaxName) }

// What is bare is a word, which begins with a letter, or a number or a fraction, which begin with a digit.

func isWord(s string) bool { return lex.Bare(s) && s[0] >= 'a' }

func isNumber(s string) bool { return lex.Bare(s) && s[0] < 'a' && !strings.Contains(s, "/") }

func isFraction(s string) bool { return lex.Bare(s) && strings.Contains(s, "/") }

// toInt returns the value of a number, which has so few digits that it always has one, and 0 for "".
func toInt(number string) int {
	n, _ := strconv.Atoi(number)
	return n
}

// toRatio returns the value of a fraction, or 0 if its denominator is 0.
func toRatio(fraction string) api.Ratio {
	above, below, _ := strings.Cut(fraction, "/")
	return ratio.Frac(toInt(above), toInt(below))
}

// ofKind returns the blocks of a kind.
func ofKind(blocks []api.Block, kind string) []api.Block {
	var found []api.Block
	for _, b := range blocks {
		if b.Kind == kind {
			found = append(found, b)
		}
	}
	return found
}

func namesOf(blocks []api.Block) []string {
	var names []string
	for _, b := range blocks {
		names = append(names, b.Name)
	}
	return names
}

// contestNames returns the names of the contests in the order of the text.
func contestNames(blocks []api.Block) []string { return namesOf(ofKind(blocks, "contest")) }

// precinctNames returns the names of the precincts in the order of the text.
func precinctNames(blocks []api.Block) []string {
	var names []string
	for _, b := range ofKind(blocks, "precincts") {
		names = append(names, fieldOf(b, "names").Values...)
	}
	return names
}

func indexOf(b api.Block, key string) int {
	return slices.IndexFunc(b.Fields, func(f api.Field) bool { return f.Key == key })
}

func has(b api.Block, key string) bool { return indexOf(b, key) >= 0 }

// fieldOf returns the field of a block that has the key, or the zero Field if there is none.
func fieldOf(b api.Block, key string) api.Field {
	if i := indexOf(b, key); i >= 0 {
		return b.Fields[i]
	}
	return api.Field{}
}

// value returns the only value of a field, or "" if the block has no such field.
func value(b api.Block, key string) string { return at(fieldOf(b, key).Values, 0) }

// number returns the number that a field has, or 0 if the block has no such field.
func number(b api.Block, key string) int { return toInt(value(b, key)) }

// code returns the code of the word that a choice has, or 0 if the block has no such field.
func code(b api.Block, key string) int { return codeOf(key, value(b, key)) }

// at returns an element of a list, or "" if there is none.
func at(list []string, i int) string {
	if i < 0 || i >= len(list) {
		return ""
	}
	return list[i]
}
