package syntax

import (
	"strings"

	"election/api"
	"election/lex"
)

// Print returns the text of a definition in its standard layout, and true, or "" and false if there is none.
func Print(s api.Source) (string, bool) {
	var p printer
	if !p.definition(s) {
		return "", false
	}
	return p.text.String(), true
}

// printer collects the text of a definition. Each method reports whether what it prints has a text that still fits; if not, nothing more is printed.
type printer struct {
	text strings.Builder
}

func (p *printer) definition(s api.Source) bool {
	if !p.plain(opening+" ") || !p.quoted(s.Title) || !p.plain(" {\n") {
		return false
	}
	for _, block := range s.Blocks {
		if !p.block(block) {
			return false
		}
	}
	return p.plain("}\n")
}

func (p *printer) block(b api.Block) bool {
	if !p.plain("  ") || !p.word(b.Kind) {
		return false
	}
	if b.Name != "" && (!p.plain(" ") || !p.word(b.Name)) {
		return false
	}
	if !p.plain(" {\n") {
		return false
	}
	for _, field := range b.Fields {
		if !p.field(field) {
			return false
		}
	}
	return p.plain("  }\n")
}

func (p *printer) field(f api.Field) bool {
	if len(f.Values) == 0 || !p.plain("    ") || !p.word(f.Key) {
		return false
	}
	separator := " "
	for _, value := range f.Values {
		if !p.plain(separator) || !p.value(value) {
			return false
		}
		separator = ", "
	}
	return p.plain(";\n")
}

func (p *printer) value(v string) bool {
	if lex.Bare(v) {
		return p.plain(v)
	}
	return p.quoted(v)
}

func (p *printer) quoted(s string) bool {
	token, ok := lex.Quote(s)
	return ok && p.plain(token)
}

func (p *printer) word(s string) bool { return isWord(s) && p.plain(s) }

// plain prints s as it is.
func (p *printer) plain(s string) bool {
	if len(s) > api.MaxText-p.text.Len() {
		return false
	}
	p.text.WriteString(s)
	return true
}

// isWord relies on it that whatever is bare and not a word begins with a digit.
func isWord(s string) bool { return lex.Bare(s) && s[0] >= 'a' }
