package syntax

import (
	"fmt"
	"reflect"
	"slices"
	"strings"
	"testing"

	"election/api"
)

const example = `election "E" {
  scan {
    dots 2;
    names a, "b c", 1/20;
  }
}
`

func field(line int, key string, values ...string) api.Field {
	return api.Field{Key: key, Values: values, Line: line}
}

func block(line int, kind, name string, fields ...api.Field) api.Block {
	return api.Block{Kind: kind, Name: name, Fields: fields, Line: line}
}

func definition(title string, blocks ...api.Block) api.Source {
	return api.Source{Title: title, Blocks: blocks}
}

// preview returns the start of a text, for the messages of tests.
func preview(text string) string { return text[:min(len(text), 100)] }

func checkParse(t *testing.T, text string, want api.Source) {
	t.Helper()
	got, fault := Parse(text)
	if fault != (api.Fault{}) || !equal(got, want) {
		t.Errorf("Parse(%q) is %s, %v, want %s and no fault", preview(text), preview(fmt.Sprint(got)), fault, preview(fmt.Sprint(want)))
	}
}

// equal compares two definitions with their lines; nil and empty lists are equal.
func equal(a, b api.Source) bool { return reflect.DeepEqual(tidy(a, true), tidy(b, true)) }

// tidy returns a deep copy of a definition without nil lists, and with or without its lines.
func tidy(s api.Source, lines bool) api.Source {
	blocks := []api.Block{}
	for _, b := range s.Blocks {
		fields := []api.Field{}
		for _, f := range b.Fields {
			f.Values = append([]string{}, f.Values...)
			if !lines {
				f.Line = 0
			}
			fields = append(fields, f)
		}
		b.Fields = fields
		if !lines {
			b.Line = 0
		}
		blocks = append(blocks, b)
	}
	s.Blocks = blocks
	return s
}

func checkFault(t *testing.T, text string, err api.Errno, line int) {
	t.Helper()
	got, fault := Parse(text)
	if !reflect.ValueOf(got).IsZero() || fault != (api.Fault{Err: err, Line: line}) {
		t.Errorf("Parse(%q) is %s, %v, want no definition and error %d in line %d", preview(text), preview(fmt.Sprint(got)), fault, err, line)
	}
}

func checkSyntax(t *testing.T, text string, line int) {
	t.Helper()
	checkFault(t, text, api.ErrSyntax, line)
}

func TestDefinitions(t *testing.T) {
	for text, title := range map[string]string{
		`election "" {}`:                                   ``,
		`election"E"{}`:                                    `E`,
		"election # \"no\"\n\"a b\"\n{\n}\n# }":            `a b`,
		`election "\"\\ {};,/# election" { }`:              `"\ {};,/# election`,
		` election "1/2" {} `:                              `1/2`,
		`election "` + strings.Repeat("t", 19986) + `" {}`: strings.Repeat("t", 19986),
	} {
		checkParse(t, text, definition(title))
	}
}

func TestBlocks(t *testing.T) {
	checkParse(t, `election "E" { scan { } }`, definition("E", block(1, "scan", "")))
	checkParse(t, `election "E" { contest x-1 { } }`, definition("E", block(1, "contest", "x-1")))
	checkParse(t, "election \"E\" {\na\n{}b\nc\n{\n}\n\na{}a b{}}", definition("E", block(2, "a", ""), block(3, "b", "c"), block(8, "a", ""), block(8, "a", "b")))
	// The line of a block is that of its Kind, whatever follows it.
	checkParse(t, "election\n\"E\"\n{\n\n k # {\n n\n {\n }\n }", definition("E", block(5, "k", "n")))
}

func TestFields(t *testing.T) {
	checkParse(t, `election "E" { scan { dots 2; } }`, definition("E", block(1, "scan", "", field(1, "dots", "2"))))
	checkParse(t, "election \"E\" { a { b\n1\n; c\n2;\n\nd 3,\n4; } e { f x; } }", definition("E",
		block(1, "a", "", field(1, "b", "1"), field(3, "c", "2"), field(6, "d", "3", "4")),
		block(7, "e", "", field(7, "f", "x"))))
	// The grammar allows what the compilation does not.
	checkParse(t, `election "E" { a { b 1; b 1, 1; } a { b 1; } }`, definition("E",
		block(1, "a", "", field(1, "b", "1"), field(1, "b", "1", "1")),
		block(1, "a", "", field(1, "b", "1"))))
}

func TestValues(t *testing.T) {
	for text, want := range map[string][]string{
		`w`:                              {"w"},
		`w-1`:                            {"w-1"},
		`0`:                              {"0"},
		`999999`:                         {"999999"},
		`""`:                             {""},
		`" "`:                            {" "},
		`"w"`:                            {"w"},
		`"7"`:                            {"7"},
		`"007"`:                          {"007"},
		`"\"\\"`:                         {`"\`},
		`1/20`:                           {"1/20"},
		`"1/20"`:                         {"1/20"},
		"1 / 20":                         {"1/20"},
		"1\n/ # half\n20":                {"1/20"},
		`"1 / 20"`:                       {"1 / 20"},
		`0/0`:                            {"0/0"},
		`999999/999999`:                  {"999999/999999"},
		`a,b`:                            {"a", "b"},
		`1,1/2,1,w,"",3/4`:               {"1", "1/2", "1", "w", "", "3/4"},
		`"1,2" , 3`:                      {"1,2", "3"},
		`election, election`:             {"election", "election"},
		`a, "b c", 1/20`:                 {"a", "b c", "1/20"},
		"x\n,\ny":                        {"x", "y"},
		strings.Repeat("v,", 9900) + "v": strings.Split(strings.Repeat("v,", 9900)+"v", ","),
	} {
		checkParse(t, `election "E" { a { b `+text+`; } }`, definition("E", block(1, "a", "", field(1, "b", want...))))
	}
}

// TestWordsAreNotReserved uses the word election, and words that are kinds or keys elsewhere, at every place of a word.
func TestWordsAreNotReserved(t *testing.T) {
	for _, w := range []string{"election", "scan", "contest", "names", "irv"} {
		text := strings.ReplaceAll(`election "w" { w { } w w { w w; w w, w; } }`, "w", w)
		checkParse(t, text, definition(w, block(1, w, ""), block(1, w, w, field(1, w, w), field(1, w, w, w))))
	}
}

// TestStringsAreStrings quotes the words and the marks of a definition, one at a time.
func TestStringsAreStrings(t *testing.T) {
	tokens := strings.Fields(`election "E" { a b { c 1 / 2 , d ; } }`)
	for i, token := range tokens {
		if token == `"E"` || token == "1" || token == "2" || token == "d" {
			continue
		}
		changed := slices.Clone(tokens)
		changed[i] = "\n\"" + token + "\"\n"
		checkSyntax(t, strings.Join(changed, " "), 2)
	}
	// Where a value stands, a string that looks like a mark is a value.
	checkParse(t, `election "{" { a { b "/", ",", ";", "}"; } }`, definition("{", block(1, "a", "", field(1, "b", "/", ",", ";", "}"))))
	checkSyntax(t, `election "E" { a { b 1 "/" 2; } }`, 1)
}

func TestExample(t *testing.T) {
	checkParse(t, example, definition("E", block(2, "scan", "", field(3, "dots", "2"), field(4, "names", "a", "b c", "1/20"))))
	checkSyntax(t, `election "E" { scan { dots; } }`, 1)
	checkSyntax(t, `election x {}`, 1)
	checkSyntax(t, `election "E" {} x`, 1)
}

// TestWrongTokens has, for every place of the grammar, tokens that cannot stand there, in a line of their own.
func TestWrongTokens(t *testing.T) {
	const all = "w election 1 \"s\" { } ; , /"
	for _, place := range []struct{ before, allowed string }{
		{``, "election"},
		{`election`, `"s"`},
		{`election "E"`, `{`},
		{`election "E" {`, `} w election`},
		{`election "E" { a`, `{ w election`},
		{`election "E" { a b`, `{`},
		{`election "E" { a {`, `} w election`},
		{`election "E" { a b {`, `} w election`},
		{`election "E" { a { c`, `w election 1 "s"`},
		{`election "E" { a { c w`, `, ;`},
		{`election "E" { a { c "1"`, `, ;`},
		{`election "E" { a { c 1`, `, ; /`},
		{`election "E" { a { c 1/`, `1`},
		{`election "E" { a { c 1/2`, `, ;`},
		{`election "E" { a { c w,`, `w election 1 "s"`},
		{`election "E" { a { c w, 1`, `, ; /`},
		{`election "E" { a { c w, 1/2, 3/4`, `, ;`},
		{`election "E" { a { c w;`, `} w election`},
		{`election "E" { a { c w; }`, `} w election`},
		{`election "E" { a { } b { }`, `} w election`},
		{`election "E" { a { } }`, ``},
		{`election "E" { }`, ``},
	} {
		for _, token := range strings.Fields(all) {
			text := place.before + "\n" + token + "\n"
			if !slices.Contains(strings.Fields(place.allowed), token) {
				checkSyntax(t, text, 2)
			} else if _, fault := Parse(text); fault != (api.Fault{}) && fault.Line != 3 {
				t.Errorf("Parse(%q) has the fault %v", text, fault)
			}
		}
	}
}

// TestEarlyEnd cuts a definition after each of its tokens; the fault is in the line of the end.
func TestEarlyEnd(t *testing.T) {
	tokens := strings.Fields(`election "E" { a { b 1 / 2 , c , "d" ; } e f { g 1 ; } }`)
	for i := range tokens {
		text := strings.Join(tokens[:i], " ")
		checkSyntax(t, text, 1)
		checkSyntax(t, text+"\n\n# the end", 3)
		checkSyntax(t, text+"\n", 2)
	}
}

// TestFirstFault has texts with several faults.
func TestFirstFault(t *testing.T) {
	checkSyntax(t, "election \"E\" {\na {\nb;\n}\n}\n}\n", 3)
	checkSyntax(t, "x\nelection \"E\" {\n1", 1)
	checkSyntax(t, "election\nelection\n\"E\"\n", 2)
	// A fault of a token comes before every fault of the grammar.
	checkSyntax(t, "x {\n}\n\n 007", 4)
	checkSyntax(t, "election \"E\" {\n;\nA\n;", 3)
	checkSyntax(t, "election \"E\" { } }\n\"", 2)
	checkFault(t, "x\nA\n"+strings.Repeat(" ", 19997), api.ErrLength, 0)
	checkSyntax(t, "x\nA\n"+strings.Repeat(" ", 19996), 2)
}

// TestLimits has texts of the greatest length, and longer ones.
func TestLimits(t *testing.T) {
	const text, limit = `election "E" { }`, 20000
	checkParse(t, text+strings.Repeat("\n", limit-len(text)), definition("E"))
	checkFault(t, text+strings.Repeat("\n", limit-len(text)+1), api.ErrLength, 0)
	checkFault(t, strings.Repeat("{", limit+1), api.ErrLength, 0)
	checkFault(t, strings.Repeat("\x00", 1<<20), api.ErrLength, 0)
	checkSyntax(t, text+strings.Repeat("\n", limit-len(text)-1)+"{", limit-len(text))
	for _, open := range []string{"", `election "E"`, `election "E" { a `} {
		checkSyntax(t, open+strings.Repeat("{", limit-len(open)), 1)
	}
	const many = 4990
	var blocks []api.Block
	for range many {
		blocks = append(blocks, block(1, "a", ""))
	}
	checkParse(t, `election "" {`+strings.Repeat("a{} ", many)+"}", definition("", blocks...))
}
