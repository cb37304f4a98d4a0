package lex

import (
	"strings"
	"testing"

	"election/api"
)

func checkNoQuote(t *testing.T, s string) {
	t.Helper()
	if got, ok := Quote(s); ok || got != "" {
		t.Errorf("Quote(%q) is %q, %v, want \"\", false", preview(s), preview(got), ok)
	}
}

func TestQuote(t *testing.T) {
	for s, want := range map[string]string{
		``:            `""`,
		` `:           `" "`,
		`a`:           `"a"`,
		`a b`:         `"a b"`,
		`12`:          `"12"`,
		`"`:           `"\""`,
		`\`:           `"\\"`,
		`\"`:          `"\\\""`,
		`""`:          `"\"\""`,
		`\n`:          `"\\n"`,
		`# {};,/'~`:   `"# {};,/'~"`,
		`say "hi\" .`: `"say \"hi\\\" ."`,
	} {
		if got, ok := Quote(s); !ok || got != want {
			t.Errorf("Quote(%q) is %q, %v, want %q, true", s, got, ok, want)
		}
	}
	for _, s := range []string{"\n", "a\n", "\t", "\r", "\x00", "a\x1fb", "\x7f", "\x80", "\xff", "ä", "日", "\"\n", "\\\x7f"} {
		checkNoQuote(t, s)
	}
}

// TestQuoteOfBytes has every byte, alone and within a text.
func TestQuoteOfBytes(t *testing.T) {
	for value := range 256 {
		c := string([]byte{byte(value)})
		for _, s := range []string{c, "a" + c, c + "a", "a" + c + "\"", "\\" + c + c} {
			if value < 32 || value > 126 {
				checkNoQuote(t, s)
			} else {
				checkRead(t, s)
			}
		}
	}
}

// checkRead checks that the token which Quote returns is read as s.
func checkRead(t *testing.T, s string) {
	t.Helper()
	token, ok := Quote(s)
	if !ok {
		t.Fatalf("Quote(%q) is false", preview(s))
	}
	checkTokens(t, token, quoted(s, 1), end(1))
}

func TestQuoteIsRead(t *testing.T) {
	each("\"\\ na", 5, "", func(s string) { checkRead(t, s) })
	checkRead(t, strings.Repeat("a", api.MaxText-2))
	checkRead(t, strings.Repeat("\"", api.MaxText/2-1))
}

// TestQuoteHasNoLimit has texts that are longer than a definition.
func TestQuoteHasNoLimit(t *testing.T) {
	plain, quotes := strings.Repeat("a", api.MaxText+1), strings.Repeat("\"", 1<<20)
	if got, ok := Quote(plain); !ok || got != "\""+plain+"\"" {
		t.Error("Quote of a long text is", preview(got), ok)
	}
	if got, ok := Quote(quotes); !ok || got != "\""+strings.Repeat("\\\"", 1<<20)+"\"" {
		t.Error("Quote of many quotes is", preview(got), ok)
	}
	checkNoQuote(t, quotes+"\n")
}

func TestBare(t *testing.T) {
	for _, s := range []string{"a", "z", "a-1", "z99-", "dots", "0", "7", "12", "999999", "1/20", "0/0", "0/5", "5/0", "999999/999999", "100000/1"} {
		if !Bare(s) {
			t.Errorf("Bare(%q) is false", s)
		}
	}
	for _, s := range []string{
		"", "1/", "/", "/2", "a/2", "2/a", "a/b", "1/2/3", "1//2", "1/2/", "/1/2", "1 /2", "1/ 2", "1/2 ", " 1/2", "1/02", "01/2", "1/1000000", "1000000/1", "1/2a", "1/-2",
		"A", "aB", "-", "-a", "a b", " a", "a ", "a\n", "a;", "a#", "#a", "\"a\"", "\"\"", "ä", "a\x00",
		"00", "01", "007", "1000000", "1234567", "1a", "1-", "-1", "+1", "1.5", " 1", "1 ", "1\n", "1;", "{", "}", ";", ",",
	} {
		if Bare(s) {
			t.Errorf("Bare(%q) is true", s)
		}
	}
}

// TestBareHasNoLimit has words that are longer than a definition.
func TestBareHasNoLimit(t *testing.T) {
	long := strings.Repeat("a", 1<<20)
	if !Bare(long) || Bare(long+"A") || Bare("1"+long) || Bare(long+"/1") {
		t.Error("Bare of long words")
	}
	digits := strings.Repeat("1", 1<<20)
	if Bare(digits) || Bare(digits+"/1") || Bare("1/"+digits) {
		t.Error("Bare of long numbers")
	}
}
