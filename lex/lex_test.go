package lex

import (
	"slices"
	"strings"
	"testing"

	"election/api"
)

func word(text string, line int) api.Token {
	return api.Token{Kind: api.TokenWord, Text: text, Line: line}
}
func number(text string, line int) api.Token {
	return api.Token{Kind: api.TokenNumber, Text: text, Line: line}
}
func quoted(text string, line int) api.Token {
	return api.Token{Kind: api.TokenString, Text: text, Line: line}
}
func mark(text string, line int) api.Token {
	return api.Token{Kind: api.TokenMark, Text: text, Line: line}
}
func end(line int) api.Token { return api.Token{Kind: api.TokenEnd, Line: line} }

// preview returns the start of a text, for the messages of tests.
func preview(text string) string { return text[:min(len(text), 60)] }

func checkTokens(t *testing.T, text string, want ...api.Token) {
	t.Helper()
	got, fault := All(text)
	if fault != (api.Fault{}) || !slices.Equal(got, want) {
		t.Errorf("All(%q) is %v, %v, want %v and no fault", preview(text), got, fault, want)
	}
}

func checkFault(t *testing.T, text string, err api.Errno, line int) {
	t.Helper()
	got, fault := All(text)
	if len(got) != 0 || fault != (api.Fault{Err: err, Line: line}) {
		t.Errorf("All(%q) is %v, %v, want no tokens and error %d in line %d", preview(text), got, fault, err, line)
	}
}

func TestBlanks(t *testing.T) {
	checkTokens(t, "", end(1))
	checkTokens(t, " \t\r", end(1))
	checkTokens(t, "\n", end(2))
	checkTokens(t, "a b\tc\rd\ne", word("a", 1), word("b", 1), word("c", 1), word("d", 1), word("e", 2), end(2))
	checkTokens(t, "1 2", number("1", 1), number("2", 1), end(1))
	checkTokens(t, "  a  ", word("a", 1), end(1))
	// Other bytes that are blanks elsewhere.
	for _, c := range []string{"\v", "\f", "\x00", "\b", "\x1f", "\x85", "\xa0", "\u00a0", "\u2028", "\ufeff"} {
		checkFault(t, c, api.ErrSyntax, 1)
		checkFault(t, "a"+c+"b", api.ErrSyntax, 1)
	}
}

func TestComments(t *testing.T) {
	checkTokens(t, "#", end(1))
	checkTokens(t, "##", end(1))
	checkTokens(t, "#\n", end(2))
	checkTokens(t, "# a \" { A \xff\x00\r b", end(1))
	checkTokens(t, "#\ra\nb", word("b", 2), end(2))
	checkTokens(t, "a#b\nc#d#e\n#f\ng", word("a", 1), word("c", 2), word("g", 4), end(4))
	checkTokens(t, "1#2", number("1", 1), end(1))
	checkTokens(t, "1/#\n2", number("1", 1), mark("/", 1), number("2", 2), end(2))
	checkTokens(t, "\"a#b\"#\"", quoted("a#b", 1), end(1))
	checkTokens(t, "{#}\n}", mark("{", 1), mark("}", 2), end(2))
	// A comment does not make a wrong token valid.
	checkFault(t, "A#\n", api.ErrSyntax, 1)
	checkFault(t, "#\n\"#\n\"", api.ErrSyntax, 2)
}

func TestWords(t *testing.T) {
	for _, w := range []string{"a", "z", "az", "a0", "a9", "a-", "a--", "a-1", "z0123456789-abc", "election", "k-e-y-", "a0000000"} {
		checkTokens(t, w, word(w, 1), end(1))
		checkTokens(t, w+";"+w+"{"+w, word(w, 1), mark(";", 1), word(w, 1), mark("{", 1), word(w, 1), end(1))
		checkTokens(t, w+"\"1\""+w, word(w, 1), quoted("1", 1), word(w, 1), end(1))
	}
	for _, w := range []string{"A", "-", "-a", "aB", "a_b", "a.b", "a`", "a{b}[", "ä", "aä", "ｚ", "a\x00"} {
		checkFault(t, w, api.ErrSyntax, 1)
		checkFault(t, "\n"+w+"\n", api.ErrSyntax, 2)
	}
}

func TestNumbers(t *testing.T) {
	for _, n := range []string{"0", "1", "9", "10", "42", "999", "1000", "12345", "100000", "999999"} {
		checkTokens(t, n, number(n, 1), end(1))
		checkTokens(t, n+","+n+"/"+n, number(n, 1), mark(",", 1), number(n, 1), mark("/", 1), number(n, 1), end(1))
		checkTokens(t, n+"\"\""+n, number(n, 1), quoted("", 1), number(n, 1), end(1))
		checkFault(t, n+"a", api.ErrSyntax, 1)
		checkFault(t, n+"z", api.ErrSyntax, 1)
		checkFault(t, n+"-", api.ErrSyntax, 1)
		checkFault(t, n+"-1", api.ErrSyntax, 1)
		checkFault(t, n+".5", api.ErrSyntax, 1)
		checkFault(t, n+"_0", api.ErrSyntax, 1)
		checkFault(t, n+"A", api.ErrSyntax, 1)
		checkFault(t, "\n0"+n, api.ErrSyntax, 2)
	}
	for _, n := range []string{"00", "01", "007", "1000000", "1234567", "0000000", "12345678901234567890", "+1", "-1", "١", "1²"} {
		checkFault(t, n, api.ErrSyntax, 1)
		checkFault(t, "a;\n"+n+";", api.ErrSyntax, 2)
	}
}

func TestStrings(t *testing.T) {
	for text, want := range map[string]string{
		`""`:             ``,
		`" "`:            ` `,
		`"a"`:            `a`,
		`"{};,/#~"`:      `{};,/#~`,
		`"\""`:           `"`,
		`"\\"`:           `\`,
		`"\\\""`:         `\"`,
		`"a\"b\\c"`:      `a"b\c`,
		`"\\n"`:          `\n`,
		`"007 A -1 12b"`: `007 A -1 12b`,
	} {
		checkTokens(t, text, quoted(want, 1), end(1))
		checkTokens(t, "\n"+text+text+"\n", quoted(want, 2), quoted(want, 2), end(3))
		checkTokens(t, "a"+text+"1"+text+";", word("a", 1), quoted(want, 1), number("1", 1), quoted(want, 1), mark(";", 1), end(1))
	}
	for _, text := range []string{
		`"`, `"a`, `"\`, `"\"`, `"a\\\"`, `"\n"`, `"\a"`, `"\u0041"`, `"\'"`, `"\ "`, `"""`, "\"\n\"", "\"\\\n\"", "\"\t\"", "\"\r\"", "\"\x1f\"",
		"\"\x7f\"", "\"\x80\"", "\"\xff\"", "\"ä\"", "'a'", "`a`", "\"\x00\"",
	} {
		checkFault(t, text, api.ErrSyntax, 1)
		// The end of the string lies in a later line than its begin.
		checkFault(t, "a\n\n "+text+"\n\n", api.ErrSyntax, 3)
	}
}

func TestMarks(t *testing.T) {
	checkTokens(t, "{};,/", mark("{", 1), mark("}", 1), mark(";", 1), mark(",", 1), mark("/", 1), end(1))
	checkTokens(t, "{{//\n//", mark("{", 1), mark("{", 1), mark("/", 1), mark("/", 1), mark("/", 2), mark("/", 2), end(2))
	for _, c := range "!$%&'()*+-.:<=>?@[\\]^_`|~" {
		checkFault(t, string(c), api.ErrSyntax, 1)
		checkFault(t, "{"+string(c)+"}", api.ErrSyntax, 1)
	}
}

func TestExamples(t *testing.T) {
	checkTokens(t, "dots 2;", word("dots", 1), number("2", 1), mark(";", 1), end(1))
	checkFault(t, "a\n12b", api.ErrSyntax, 2)
	checkFault(t, "007", api.ErrSyntax, 1)
	checkFault(t, "\"a\nb\"", api.ErrSyntax, 1)
	checkFault(t, "A", api.ErrSyntax, 1)
}

// TestFirstFault has texts with several faults.
func TestFirstFault(t *testing.T) {
	checkFault(t, "a\nA\n007\n\"", api.ErrSyntax, 2)
	checkFault(t, "a\n\"b\n\"c\nA", api.ErrSyntax, 2)
	checkFault(t, "# A\n\n{ 01\n", api.ErrSyntax, 3)
	checkFault(t, "\r\rA\r\nA", api.ErrSyntax, 1)
}

// TestLimits has texts of the greatest length, and longer ones.
func TestLimits(t *testing.T) {
	const limit = 20000
	checkTokens(t, strings.Repeat(" ", limit), end(1))
	checkTokens(t, strings.Repeat("\n", limit), end(limit+1))
	checkTokens(t, strings.Repeat("#", limit), end(1))
	checkTokens(t, strings.Repeat("w", limit), word(strings.Repeat("w", limit), 1), end(1))
	checkTokens(t, "\""+strings.Repeat("s", limit-2)+"\"", quoted(strings.Repeat("s", limit-2), 1), end(1))
	checkTokens(t, strings.Repeat("\n", limit-1)+"a", word("a", limit), end(limit))
	checkTokens(t, strings.Repeat(";", limit), append(slices.Repeat([]api.Token{mark(";", 1)}, limit), end(1))...)
	checkFault(t, strings.Repeat("\n", limit-1)+"A", api.ErrSyntax, limit)
	checkFault(t, strings.Repeat("1", limit), api.ErrSyntax, 1)
	checkFault(t, "\""+strings.Repeat("s", limit-1), api.ErrSyntax, 1)
	for _, unit := range []string{" ", "\n", "#", "w", "1", ";", "\"", "A", "\x00", "\xff"} {
		checkFault(t, strings.Repeat(unit, limit+1), api.ErrLength, 0)
		checkFault(t, strings.Repeat(unit, 1<<20), api.ErrLength, 0)
	}
	checkFault(t, "\nA"+strings.Repeat(" ", limit-1), api.ErrLength, 0)
	checkFault(t, "\nA"+strings.Repeat(" ", limit-2), api.ErrSyntax, 2)
}

// TestTokensShareNothing overwrites results, with their spare capacity.
func TestTokensShareNothing(t *testing.T) {
	text := "election \"E\" {\n scan { dots 2; }\n}"
	want, _ := All(text)
	want = slices.Clone(want)
	for range 3 {
		first, _ := All(text)
		second, fault := All(text)
		clear(first[:cap(first)])
		if fault != (api.Fault{}) || !slices.Equal(second, want) {
			t.Fatalf("All(%q) is %v, %v after a change of an earlier result", text, second, fault)
		}
	}
}

// TestCallsAreIndependent repeats calls after others.
func TestCallsAreIndependent(t *testing.T) {
	texts := []string{"", "a\n\nb", "\n\nA", "\"a\nb", strings.Repeat(" ", api.MaxText+1), "# c"}
	for _, a := range texts {
		tokens, fault := All(a)
		for _, b := range texts {
			All(b)
			again, sameFault := All(a)
			if !slices.Equal(again, tokens) || sameFault != fault {
				t.Errorf("All(%q) depends on the call before", preview(a))
			}
		}
	}
}
