package syntax

import (
	"fmt"
	"math/rand"
	"reflect"
	"regexp"
	"strings"
	"testing"

	"election/api"
	"election/lex"
)

func checkPrint(t *testing.T, s api.Source, want string) {
	t.Helper()
	if got, ok := Print(s); !ok || got != want {
		t.Errorf("Print is %q, %v, want %q, true", preview(got), ok, preview(want))
	}
}

func checkNoPrint(t *testing.T, s api.Source, why string) {
	t.Helper()
	if got, ok := Print(s); ok || got != "" {
		t.Errorf("Print is %q, %v, want \"\", false: %s", preview(got), ok, preview(why))
	}
}

func TestPrintExample(t *testing.T) {
	checkPrint(t, definition("E", block(0, "scan", "", field(0, "dots", "2"), field(0, "names", "a", "b c", "1/20"))), example)
}

func TestPrintLayout(t *testing.T) {
	checkPrint(t, definition(""), "election \"\" {\n}\n")
	checkPrint(t, definition("t", block(0, "a", "")), "election \"t\" {\n  a {\n  }\n}\n")
	checkPrint(t, definition("t", block(0, "a", "b"), block(0, "a", "b")), "election \"t\" {\n  a b {\n  }\n  a b {\n  }\n}\n")
	checkPrint(t, definition("say \"\\\" twice", block(0, "a", "b-1", field(0, "c-", "d"), field(0, "c-", "d", "d")), block(0, "e", "", field(0, "f", "1", "2", "3"))),
		"election \"say \\\"\\\\\\\" twice\" {\n  a b-1 {\n    c- d;\n    c- d, d;\n  }\n  e {\n    f 1, 2, 3;\n  }\n}\n")
	checkPrint(t, definition("election", block(0, "election", "election", field(0, "election", "election"))), "election \"election\" {\n  election election {\n    election election;\n  }\n}\n")
}

func TestPrintIgnoresLines(t *testing.T) {
	checkPrint(t, definition("E", block(-9, "scan", "", field(9, "dots", "2"), field(9, "names", "a", "b c", "1/20"))), example)
	s, _ := Parse("election \"E\" {\n\n\nscan {dots\n2;names a,\"b c\",1 / 20;}}")
	checkPrint(t, s, example)
}

func TestPrintOfValues(t *testing.T) {
	for value, want := range map[string]string{
		"a": "a", "k-9": "k-9", "0": "0", "12": "12", "999999": "999999", "1/20": "1/20", "0/0": "0/0",
		"": `""`, " ": `" "`, "A": `"A"`, "007": `"007"`, "1000000": `"1000000"`, "-": `"-"`, "1a": `"1a"`, "a b": `"a b"`, "~": `"~"`,
		"1/": `"1/"`, "a/2": `"a/2"`, "1 / 2": `"1 / 2"`, "1/2/3": `"1/2/3"`, "1/02": `"1/02"`,
		`"`: `"\""`, `\`: `"\\"`, `"a"`: `"\"a\""`, ";": `";"`, ",": `","`, "{}": `"{}"`, "#": `"#"`, "a,b": `"a,b"`, "a;": `"a;"`,
	} {
		s := definition("", block(0, "a", "", field(0, "b", value, "c", value)))
		checkPrint(t, s, "election \"\" {\n  a {\n    b "+want+", c, "+want+";\n  }\n}\n")
	}
}

// TestPrintOfBytes puts every byte at every place of a definition that has a text of its own.
func TestPrintOfBytes(t *testing.T) {
	for value := range 256 {
		c := string([]byte{byte(value)})
		printable := value >= 32 && value <= 126
		letter := c >= "a" && c <= "z"
		inWord := letter || c >= "0" && c <= "9" || c == "-"
		for _, text := range []struct {
			text            string
			isText, isAWord bool
		}{{c, printable, letter}, {"a" + c, printable, inWord}, {c + "a", printable, letter}, {"a" + c + "b", printable, inWord}, {"A" + c, printable, false}} {
			for place, ok := range []bool{text.isText, text.isAWord, text.isAWord, text.isAWord, text.isText} {
				texts := []string{"t", "k", "n", "f", "v"}
				texts[place] = text.text
				s := definition(texts[0], block(0, texts[1], texts[2], field(0, texts[3], "1", texts[4])))
				if ok {
					checkReadBack(t, s)
				} else {
					checkNoPrint(t, s, fmt.Sprintf("%q at place %d", text.text, place))
				}
			}
		}
	}
}

// checkReadBack checks that Parse returns the definition that Print printed.
func checkReadBack(t *testing.T, s api.Source) {
	t.Helper()
	text, ok := Print(s)
	back, fault := Parse(text)
	if !ok || fault != (api.Fault{}) || !reflect.DeepEqual(tidy(back, false), tidy(s, false)) {
		t.Errorf("%s is printed as %q, %v, and read as %s, %v", preview(fmt.Sprint(s)), preview(text), ok, preview(fmt.Sprint(back)), fault)
	}
}

func TestPrintOfInvalidWords(t *testing.T) {
	for _, w := range []string{"1", "0", "999999", "1/2", "A", "-", "-a", "a b", " a", "a ", "a_b", "aB", "a.b", "a/b", "a/2", "\"a\"", "a\n", "ä", "{", ";", "#", "a#", "\x00"} {
		checkNoPrint(t, definition("", block(0, w, "")), "a Kind "+w)
		checkNoPrint(t, definition("", block(0, "a", w)), "a Name "+w)
		checkNoPrint(t, definition("", block(0, "a", "", field(0, w, "1"))), "a Key "+w)
		checkNoPrint(t, definition("", block(0, "a", ""), block(0, "a", "b", field(0, "c", "1"), field(0, w, "1")), block(0, "a", "")), "a Key in the midst: "+w)
	}
	checkNoPrint(t, definition("", block(0, "", "")), "no Kind")
	checkNoPrint(t, definition("", block(0, "", "a")), "no Kind, but a Name")
	checkNoPrint(t, definition("", block(0, "a", "", field(0, "", "1"))), "no Key")
}

func TestPrintOfNoValues(t *testing.T) {
	checkNoPrint(t, definition("", block(0, "a", "", field(0, "b"))), "nil values")
	checkNoPrint(t, definition("", block(0, "a", "", field(0, "b", []string{}...))), "empty values")
	checkNoPrint(t, definition("", block(0, "a", "", field(0, "b", "1"), field(0, "c"), field(0, "d", "1"))), "no values in the midst")
	checkNoPrint(t, api.Source{Blocks: []api.Block{{}}}, "an empty block")
	checkNoPrint(t, api.Source{Blocks: []api.Block{{Kind: "a", Fields: []api.Field{{}}}}}, "an empty field")
	checkPrint(t, api.Source{}, "election \"\" {\n}\n")
	checkPrint(t, api.Source{Blocks: []api.Block{}}, "election \"\" {\n}\n")
}

// TestPrintLimit has, for each place of a definition, texts that just fit and texts that do not.
func TestPrintLimit(t *testing.T) {
	const limit = 20000
	for place, unit := range []string{"t", "k", "n", "f", "v", "V"} {
		with := func(n int) api.Source {
			texts := []string{"t", "k", "n", "f", "v", "V"}
			texts[place] = strings.Repeat(unit, n)
			return definition(texts[0], block(0, texts[1], texts[2], field(0, texts[3], texts[4], texts[5])))
		}
		short, _ := wantPrint(with(1))
		most := limit - len(short) + 1
		if text, ok := Print(with(most)); !ok || len(text) != limit {
			t.Errorf("place %d: a text of %d bytes, %v, want %d", place, len(text), ok, limit)
		}
		checkReadBack(t, with(most))
		checkReadBack(t, with(most-1))
		for _, n := range []int{most + 1, most + 2, limit, 1 << 20} {
			checkNoPrint(t, with(n), "it is too long")
		}
	}
	// Escapes count.
	const frame = len("election \"\" {\n}\n")
	checkReadBack(t, definition(strings.Repeat("\"", (limit-frame)/2)))
	checkNoPrint(t, definition(strings.Repeat("\"", (limit-frame)/2+1)), "it is too long")
}

// TestPrintOfManyParts has a limit that is reached by the number of blocks, of fields or of values.
func TestPrintOfManyParts(t *testing.T) {
	repeated := func(n int) []api.Source {
		var blocks []api.Block
		var fields []api.Field
		for range n {
			blocks = append(blocks, block(0, "a", ""))
			fields = append(fields, field(0, "b", "v"))
		}
		values := strings.Split(strings.Repeat("v,", n-1)+"v", ",")
		return []api.Source{definition("", blocks...), definition("", block(0, "a", "", fields...)), definition("", block(0, "a", "", field(0, "b", values...)))}
	}
	for i := range repeated(1) {
		one, _ := wantPrint(repeated(1)[i])
		two, _ := wantPrint(repeated(2)[i])
		most := 1 + (20000-len(one))/(len(two)-len(one))
		checkReadBack(t, repeated(most)[i])
		checkNoPrint(t, repeated(most + 1)[i], "it is too long")
	}
	for i, s := range repeated(1 << 20) {
		checkNoPrint(t, s, fmt.Sprint("very many parts of kind ", i))
	}
	// A definition that is too long and has a wrong part is one that has no text in any case.
	checkNoPrint(t, definition(strings.Repeat("t", 30000), block(0, "", "")), "two reasons")
	checkNoPrint(t, definition("\n", block(0, strings.Repeat("a", 30000), "")), "two reasons")
}

// wantPrint prints a definition with fmt, and tells by expressions whether that is a text.
func wantPrint(s api.Source) (string, bool) {
	word := regexp.MustCompile(`\A[a-z][a-z0-9-]*\z`)
	text := regexp.MustCompile(`\A[ -~]*\z`)
	quoted := func(s string) string {
		return `"` + strings.NewReplacer(`"`, `\"`, `\`, `\\`).Replace(s) + `"`
	}
	ok := text.MatchString(s.Title)
	out := fmt.Sprintf("election %s {\n", quoted(s.Title))
	for _, b := range s.Blocks {
		ok = ok && word.MatchString(b.Kind) && (b.Name == "" || word.MatchString(b.Name))
		out += fmt.Sprintf("  %s {\n", strings.Join(strings.Fields(b.Kind+" "+b.Name), " "))
		for _, f := range b.Fields {
			ok = ok && word.MatchString(f.Key) && len(f.Values) > 0
			var values []string
			for _, v := range f.Values {
				ok = ok && text.MatchString(v)
				if !lex.Bare(v) {
					v = quoted(v)
				}
				values = append(values, v)
			}
			out += fmt.Sprintf("    %s %s;\n", f.Key, strings.Join(values, ", "))
		}
		out += "  }\n"
	}
	out += "}\n"
	if !ok || len(out) > 20000 {
		return "", false
	}
	return out, true
}

// TestPrintOfRandomDefinitions compares Print with wantPrint, and reads back what has a text.
func TestPrintOfRandomDefinitions(t *testing.T) {
	random := rand.New(rand.NewSource(77))
	words := []string{"a", "scan", "x-1", "election", "b9-"}
	values := []string{"a", "x-1", "0", "12", "1/20", "", "A b", "007", `"\`, "1/", "#{};,"}
	wrong := []string{"", "A", "1", "\n", "é", "1/2"}
	pick := func(list []string) string {
		if random.Intn(80) == 0 {
			list = wrong
		}
		return list[random.Intn(len(list))]
	}
	printed := 0
	for range 5000 {
		s := definition(pick(values))
		for range random.Intn(4) {
			b := block(random.Intn(9), pick(words), pick(words))
			if random.Intn(2) == 0 {
				b.Name = ""
			}
			for range random.Intn(4) {
				f := field(random.Intn(9), pick(words), pick(values))
				for range random.Intn(3) {
					f.Values = append(f.Values, pick(values))
				}
				b.Fields = append(b.Fields, f)
			}
			s.Blocks = append(s.Blocks, b)
		}
		want, ok := wantPrint(s)
		if !ok {
			checkNoPrint(t, s, fmt.Sprint(s))
			continue
		}
		printed++
		checkPrint(t, s, want)
		checkReadBack(t, s)
	}
	if printed < 1000 || printed > 4900 {
		t.Error(printed, "definitions of 5000 have a text")
	}
}
