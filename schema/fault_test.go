package schema

import (
	"fmt"
	"strconv"
	"strings"
	"testing"

	"election/api"
)

// many returns n different names that begin with the prefix, with commas between them.
func many(prefix string, n int) string {
	var names []string
	for i := range n {
		names = append(names, prefix+strconv.Itoa(i))
	}
	return strings.Join(names, ", ")
}

func TestTitle(t *testing.T) {
	s := parse(t, example)
	for title, valid := range map[string]bool{
		"": true, " ": true, "~": true, `"\`: true, strings.Repeat("t", 60): true, strings.Repeat(`"`, 60): true,
		strings.Repeat("t", 61): false, "\x7f": false, "\x1f": false, "a\nb": false, "é": false, strings.Repeat("t", 59) + "\n": false, strings.Repeat("t", 60) + "\x00": false,
	} {
		s.Title = title
		if valid {
			want := exampleElection()
			want.Title = title
			checkCompile(t, s, want)
		} else {
			checkFault(t, s, api.ErrForm, 0, title)
		}
	}
	checkFault(t, api.Source{Title: "\n", Blocks: []api.Block{{Kind: "none", Line: 3}}}, api.ErrForm, 0, "the title comes first")
}

// TestNumbers gives each number each value near its limits, and values that are not numbers.
func TestNumbers(t *testing.T) {
	for _, field := range []struct {
		old         string
		least, most int
	}{
		{"dots 3", 2, 7}, {"blank 10", 1, 40}, {"marked 40", 10, 100}, {"count 2", 1, 6}, {"batch 8", 1, 16},
		{"seats 2", 1, 5}, {"seats 3", 1, 5}, {"ranks 3", 1, 7}, {"ranks 4", 1, 7}, {"digits 5", 1, 6}, {"cell 5", 1, 400},
	} {
		key, _, _ := strings.Cut(field.old, " ")
		for n := range 403 {
			replacement := key + " " + strconv.Itoa(n)
			if n >= field.least && n <= field.most {
				checkChange(t, field.old, replacement, api.OK, "")
				continue
			}
			where := replacement + ";"
			if n > 0 && n <= 100 && (key == "blank" || key == "marked") {
				where = "scan {"
			}
			checkChange(t, field.old, replacement, api.ErrRange, where)
		}
		checkChange(t, field.old, key+" 999999", api.ErrRange, key+" 999999")
		for _, value := range []string{"x", `""`, `"02"`, `" 2"`, `"2 "`, `"-2"`, `"+2"`, "2/1", `"2.0"`, `"1000000"`, `"0x2"`, `"1_0"`, `"99999999999999999999"`, `"\""`} {
			checkChange(t, field.old, key+" "+value, api.ErrKind, key+" "+value)
		}
		checkChange(t, field.old, key+" 2, 3", api.ErrLength, key+" 2, 3")
		checkChange(t, field.old, key+" x, x", api.ErrLength, key+" x, x")
	}
}

// TestScanPercents has the limits that blank and marked have besides each other's.
func TestScanPercents(t *testing.T) {
	const old = "blank 10;\n    marked 40"
	for blank, marked := range map[int]int{1: 1, 100: 100, 50: 50, 2: 100} {
		checkChange(t, old, fmt.Sprintf("blank %d; marked %d", blank, marked), api.OK, "")
	}
	for blank, marked := range map[int]int{2: 1, 100: 99, 51: 50} {
		checkChange(t, old, fmt.Sprintf("blank %d; marked %d", blank, marked), api.ErrRange, "scan {")
	}
	checkChange(t, old, "blank 101; marked 10", api.ErrRange, "blank")
	checkChange(t, old, "blank 100;\n marked 101", api.ErrRange, "marked")
	checkChange(t, old, "blank 100;\n marked 0", api.ErrRange, "marked")
	checkChange(t, old, "marked 100;\n blank 0", api.ErrRange, "blank")
}

func TestChoices(t *testing.T) {
	for _, field := range []struct{ old, words string }{
		{"method gregory", "irv meek gregory"}, {"ties lot", "backwards forwards lot"}, {"overvote skip", "stop skip"}, {"skip two", "close stop two"},
	} {
		key, _, _ := strings.Cut(field.old, " ")
		for _, word := range []string{"irv", "meek", "gregory", "backwards", "forwards", "lot", "stop", "skip", "close", "two", "method", "x", "1", "0", "1/2", `""`, `"IRV"`, `"stop "`, `"irv meek"`} {
			replacement := key + " " + word
			err, where := api.OK, ""
			switch {
			case !strings.Contains(" "+field.words+" ", " "+word+" "):
				err, where = api.ErrName, replacement
			case word == "irv":
				err, where = api.ErrRange, "seats 3"
			case word == "meek":
				err, where = api.ErrMissing, "contest board-2"
			}
			checkChange(t, field.old, replacement, err, where)
		}
		checkChange(t, field.old, field.old+", x", api.ErrLength, field.old+", x")
	}
}

func TestMethods(t *testing.T) {
	checkChange(t, "seats 1;", "seats 2;", api.ErrRange, "seats 2")
	checkChange(t, "ranks 3;", "digits 2;", api.ErrMissing, "contest mayor")
	checkChange(t, "ranks 3;", "ranks 3;\n digits 2;", api.ErrKind, "digits")
	checkChange(t, "seats 1;\n    ranks 3;", "seats 2; ranks 3;\n digits 2;", api.ErrKind, "digits")
	checkChange(t, "ranks 3;", "ranks 3;\n digits 7;", api.ErrRange, "digits")
	checkChange(t, "method meek", "method gregory", api.ErrKind, "digits")
	checkChange(t, "method meek", "method irv", api.ErrKind, "digits")
	checkChange(t, "    digits 5;\n", "", api.ErrMissing, "contest council")
	checkChange(t, "method gregory;\n    seats 3", "seats 2; method irv", api.ErrRange, "seats 2; method")
	checkChange(t, "method irv;\n    seats 1", "digits 1", api.ErrMissing, "contest mayor")
	checkChange(t, "ranks 5", "ranks 5;\n digits 1", api.ErrKind, "digits 1")
}

func TestNames(t *testing.T) {
	for old, most := range map[string]int{`names north, "South 1", west`: 12, `candidates dan, "Eve E.", fay, 7`: 7, "candidates 1/2, gus": 7, `precincts "South 1"`: 12, "contests board-2": 4} {
		key, _, _ := strings.Cut(old, " ")
		checkLengths(t, old, key, most)
		for values, err := range map[string]api.Errno{
			`""`: api.ErrForm, `x, ""`: api.ErrForm, strings.Repeat("x", 25): api.ErrForm, `"` + strings.Repeat(" ", 25) + `"`: api.ErrForm,
			"x, x": api.ErrDuplicate, "x, y, x": api.ErrDuplicate, `1/2, "1/2"`: api.ErrDuplicate, `x, x, ""`: api.ErrDuplicate, `x, "", x`: api.ErrForm,
			many("p", most) + ", p0": api.ErrLength, many("p", most) + `, ""`: api.ErrLength, many("p", most-1) + ", p0, q": api.ErrDuplicate, many("p", most-1) + `, "", q`: api.ErrForm,
		} {
			checkChange(t, old, key+" "+values, err, key+" "+values)
		}
	}
}

// checkLengths gives a list of names many values. All of them are examined before the names of precincts and contests are looked up.
func checkLengths(t *testing.T, old, key string, most int) {
	t.Helper()
	for n := 1; n < 15; n++ {
		replacement := key + " " + many("p", n)
		switch {
		case n > most:
			checkChange(t, old, replacement, api.ErrLength, replacement)
		case key == "precincts" || key == "contests":
			checkChange(t, old, replacement, api.ErrName, replacement)
		case key == "names":
			checkChange(t, old, replacement, api.ErrName, "precincts west, north")
		default:
			checkChange(t, old, replacement, api.OK, "")
		}
	}
}

// TestBytes puts every byte at the start and at the end of each kind of name and text.
func TestBytes(t *testing.T) {
	for value := range 256 {
		c := string([]byte{byte(value)})
		printable := value >= 32 && value <= 126
		letter := value >= 'a' && value <= 'z'
		inWord := letter || value >= '0' && value <= '9' || value == '-'
		for _, at := range []struct {
			text            string
			isText, isAWord bool
		}{{c, printable, letter}, {"zz" + c, printable, inWord}, {c + "zz", printable, letter}, {"z" + c + "z", printable, inWord}} {
			checkText(t, at.text, at.isText, at.isAWord)
		}
	}
	checkText(t, strings.Repeat("z", 24), true, true)
	checkText(t, strings.Repeat("z", 25), false, false)
	checkText(t, "z"+strings.Repeat("-", 23), true, true)
	checkText(t, strings.Repeat("~", 24), true, false)
	checkText(t, strings.Repeat(`"`, 24), true, false)
	checkText(t, "1/2", true, false)
	checkText(t, strings.Repeat("z", 1000000), false, false)
}

// checkText uses a text as a name of a precinct, of a candidate, of a contest and of a style, and as the seed.
func checkText(t *testing.T, text string, isText, isAWord bool) {
	t.Helper()
	use := func(valid bool, put func(s *api.Source), line int, want func(e *api.Election)) {
		t.Helper()
		s := parse(t, example)
		put(&s)
		if !valid {
			checkFault(t, s, api.ErrForm, line, text)
			return
		}
		e := exampleElection()
		want(&e)
		checkCompile(t, s, e)
	}
	use(isText, func(s *api.Source) {
		s.Blocks[2].Fields[0].Values[2] = text
		s.Blocks[6].Fields[0].Values[0] = text
	}, lineOf(t, example, "names"), func(e *api.Election) { e.Precincts[2] = text })
	use(isText, func(s *api.Source) { s.Blocks[4].Fields[7].Values[3] = text }, lineOf(t, example, "candidates dan"), func(e *api.Election) { e.Contests[1].Candidates[3] = text })
	use(isText, func(s *api.Source) { s.Blocks[8].Fields[1].Values[0] = text }, lineOf(t, example, "seed"), func(e *api.Election) { e.Seed = text })
	use(isAWord, func(s *api.Source) {
		s.Blocks[3].Name = text
		s.Blocks[6].Fields[1].Values[1] = text
	}, lineOf(t, example, "contest mayor"), func(e *api.Election) { e.Contests[0].Name = text })
	use(isAWord, func(s *api.Source) { s.Blocks[6].Name = text }, lineOf(t, example, "style town"), func(e *api.Election) { e.Styles[0].Name = text })
}

func TestSeed(t *testing.T) {
	checkChange(t, `"8 1 6"`, `""`, api.OK, "")
	checkChange(t, `"8 1 6"`, "1/2", api.OK, "")
	checkChange(t, `"8 1 6"`, strings.Repeat("s", 24), api.OK, "")
	checkChange(t, `"8 1 6"`, strings.Repeat("s", 25), api.ErrForm, "seed")
	checkChange(t, `"8 1 6"`, "8, 1", api.ErrLength, "seed")
	checkChange(t, "risk 1/20", "risk 1/20, 1/20", api.ErrLength, "risk")
	for _, value := range []string{"1", "x", `""`, `"1/"`, `"/2"`, `"1/02"`, `"1/2/3"`, `"1 / 20"`, `"-1/20"`, `"1/1000000"`, `"1/20 "`} {
		checkChange(t, "risk 1/20", "risk "+value, api.ErrKind, "risk")
	}
}

func TestKinds(t *testing.T) {
	for _, kind := range []string{"scan", "scanners", "precincts", "audit", "privacy"} {
		checkChange(t, kind+" {", kind+" x {", api.ErrName, kind+" x")
		checkChange(t, kind+" {", kind+" scan {", api.ErrName, kind+" scan")
		checkChange(t, kind+" {", kind+"x {", api.ErrName, kind+"x")
		checkChange(t, kind+" {", "contest {", api.ErrMissing, "contest {")
		if kind != "scan" {
			checkChange(t, kind+" {", "scan {", api.ErrDuplicate, "scan {\n    "+firstKey(kind))
		}
		checkChange(t, "privacy {", kind+" x {", api.ErrName, kind+" x {")
	}
	for _, name := range []string{"", "none", "Scan", "scan ", "contests"} {
		checkFault(t, api.Source{Blocks: []api.Block{{Kind: name, Name: "x", Line: 7}}}, api.ErrName, 7, name)
		checkFault(t, api.Source{Blocks: []api.Block{{Kind: name, Line: -7}}}, api.ErrName, -7, name)
	}
}

func firstKey(kind string) string {
	_, rest, _ := strings.Cut(example, "  "+kind+" {\n    ")
	key, _, _ := strings.Cut(rest, " ")
	return key
}

func TestBlockNames(t *testing.T) {
	for _, kind := range []string{"contest", "style"} {
		for name, err := range map[string]api.Errno{"": api.ErrMissing, "A": api.ErrForm, "1": api.ErrForm, "1/2": api.ErrForm, "a b": api.ErrForm, "\n": api.ErrForm, "-a": api.ErrForm, strings.Repeat("a", 25): api.ErrForm} {
			checkFault(t, api.Source{Blocks: []api.Block{{Kind: kind, Name: name, Line: 5, Fields: []api.Field{{Key: "none", Line: 6}}}}}, err, 5, kind+name)
		}
	}
	checkChange(t, "contest council", "contest mayor", api.ErrDuplicate, "contest mayor {\n    method meek")
	checkChange(t, "contest board-2", "contest mayor", api.ErrDuplicate, "contest mayor {\n    method gregory")
	checkChange(t, "style land", "style town", api.ErrDuplicate, "style town {\n    precincts \"South 1\"")
}

// TestManyBlocks has as many contests and styles as are allowed, and one more, whose name is examined before.
func TestManyBlocks(t *testing.T) {
	contest := example[strings.Index(example, "  contest mayor"):strings.Index(example, "  contest council")]
	style := "  style land {\n    precincts \"South 1\";\n    contests board-2;\n  }\n"
	fourth := change(t, contest, "mayor", "fourth")
	checkChange(t, contest, contest+fourth, api.OK, "")
	for name, err := range map[string]api.Errno{"fifth": api.ErrLength, "mayor": api.ErrDuplicate, "fourth": api.ErrDuplicate} {
		where := "contest " + name + " {\n    method irv; #"
		fifth := change(t, change(t, contest, "mayor", name), "irv;", "irv; #")
		checkChange(t, "  style town", fourth+fifth+"  style town", err, where)
	}
	precincts, styles := many("p", 6), ""
	for i := range 6 {
		n := strconv.Itoa(i)
		styles += "style s" + n + " { precincts p" + n + "; contests mayor; }\n"
	}
	begin, end := strings.Index(example, "  style town"), strings.Index(example, "  audit")
	text := change(t, example[:begin]+styles+example[end:], `north, "South 1", west`, precincts)
	if e, fault := Compile(parse(t, text)); fault != (api.Fault{}) || len(e.Styles) != 6 || !Valid(e) {
		t.Errorf("with six styles Compile is %s, %v", preview(e), fault)
	}
	checkFault(t, parse(t, change(t, text, "  audit", style+"  audit")), api.ErrLength, lineOf(t, text, "  audit"), "seven styles")
	checkFault(t, parse(t, change(t, text, "  audit", "style s5 { }\n"+"  audit")), api.ErrDuplicate, lineOf(t, text, "  audit"), "the seventh style has an old name")
	checkFault(t, parse(t, change(t, text, "  audit", "style { }\n"+"  audit")), api.ErrMissing, lineOf(t, text, "  audit"), "the seventh style has no name")
}

// TestKeys renames, repeats and removes each field.
func TestKeys(t *testing.T) {
	s := parse(t, example)
	for i, b := range s.Blocks {
		for j, f := range b.Fields {
			what := b.Kind + " " + f.Key
			for _, key := range []string{"", "x", strings.ToUpper(f.Key), f.Key + " ", "name"} {
				renamed := parse(t, example)
				renamed.Blocks[i].Fields[j].Key = key
				checkFault(t, renamed, api.ErrName, f.Line, what)
			}
			repeated := parse(t, example)
			again := api.Field{Key: f.Key, Line: 1000}
			repeated.Blocks[i].Fields = append(repeated.Blocks[i].Fields, again)
			checkFault(t, repeated, api.ErrDuplicate, 1000, what)
			empty := parse(t, example)
			empty.Blocks[i].Fields[j].Values = nil
			checkFault(t, empty, api.ErrLength, f.Line, what)
			removed := parse(t, example)
			removed.Blocks[i].Fields = append(removed.Blocks[i].Fields[:j], removed.Blocks[i].Fields[j+1:]...)
			checkFault(t, removed, api.ErrMissing, b.Line, what)
		}
		removed := parse(t, example)
		removed.Blocks[i].Fields = nil
		checkFault(t, removed, api.ErrMissing, b.Line, b.Kind)
	}
}

// TestKeysOfOtherBlocks gives each block each key that it does not have.
func TestKeysOfOtherBlocks(t *testing.T) {
	s := parse(t, example)
	for i, b := range s.Blocks {
		for _, other := range s.Blocks {
			for _, f := range other.Fields {
				if fieldOf(b, f.Key).Key != "" {
					continue
				}
				more := parse(t, example)
				more.Blocks[i].Fields = append(more.Blocks[i].Fields, f)
				err := api.ErrName
				if b.Kind == "contest" && f.Key == "digits" {
					err = api.ErrKind
				}
				checkFault(t, more, err, f.Line, b.Kind+" "+f.Key)
			}
		}
	}
}

func TestMissingBlocks(t *testing.T) {
	checkFault(t, api.Source{}, api.ErrMissing, 0, "no blocks")
	checkFault(t, api.Source{Title: "t", Blocks: []api.Block{}}, api.ErrMissing, 0, "no blocks")
	for _, kind := range []string{"scan", "scanners", "precincts", "contest", "style", "audit", "privacy"} {
		s := parse(t, example)
		var blocks []api.Block
		for _, b := range s.Blocks {
			if b.Kind != kind {
				blocks = append(blocks, b)
			}
		}
		s.Blocks = blocks
		checkFault(t, s, api.ErrMissing, 0, kind)
	}
}

func TestStyles(t *testing.T) {
	const town, land = "precincts west, north;\n    contests council, mayor, board-2", "precincts \"South 1\";\n    contests board-2"
	checkChange(t, town, "contests board-2; precincts west, north", api.OK, "")
	checkChange(t, town, "contests none;\n precincts west, east, north", api.ErrName, "precincts west, east")
	checkChange(t, town, "contests none;\n precincts west, north", api.ErrName, "contests none")
	checkChange(t, land, "contests none;\n precincts west", api.ErrDuplicate, "precincts west;")
	checkChange(t, land, "contests none;\n precincts none, west", api.ErrName, "precincts none")
	checkChange(t, land, "contests none;\n precincts west, none", api.ErrDuplicate, "precincts west, none")
	checkChange(t, land, "contests none;\n precincts \"South 1\", north", api.ErrDuplicate, "precincts \"South 1\", north")
	checkChange(t, land, "precincts \"South 1\";\n contests mayor, none", api.ErrName, "contests mayor, none")
	checkChange(t, town, "precincts west;\n contests mayor", api.ErrMissing, "")
	checkChange(t, town, "precincts west;\n contests none", api.ErrName, "contests none")
	checkChange(t, "precincts west, north", "precincts west, north, \"South 1\"", api.ErrDuplicate, "precincts \"South 1\"")
	checkChange(t, land, "precincts \"South 1\";\n contests north", api.ErrName, "contests north")
	checkChange(t, "names north", "names east, north", api.ErrMissing, "")
	// A missing block comes before what the styles say.
	s := parse(t, change(t, example, "precincts west", "precincts none"))
	s.Blocks = s.Blocks[:len(s.Blocks)-1]
	checkFault(t, s, api.ErrMissing, 0, "a missing block")
}

// TestOrderOfFaults puts faults together; the first one counts.
func TestOrderOfFaults(t *testing.T) {
	checkChange(t, "scan {", "x { y 1; }\n  scan {", api.ErrName, "x {")
	checkChange(t, "dots 3;", "dots 8;\n none 1;", api.ErrRange, "dots 8")
	checkChange(t, "dots 3;", "none 1;\n dots 8;", api.ErrName, "none")
	checkChange(t, "dots 3;", "dots 3;\n blank 99;\n dots x;", api.ErrDuplicate, "dots x")
	checkChange(t, "dots 3;\n    blank 10;", "blank 99;", api.ErrMissing, "scan {")
	checkChange(t, "dots 3;\n    blank 10;", "blank 101;", api.ErrRange, "blank 101")
	checkChange(t, "marked 40;\n  }\n  scanners {", "marked 4;\n  }\n  none {", api.ErrRange, "scan {")
	checkChange(t, "marked 40;\n  }\n  scanners {", "marked 40;\n  }\n  none {", api.ErrName, "none {")
	checkChange(t, "method irv;\n    seats 1", "method irv, meek;\n    seats 9", api.ErrLength, "method irv, meek")
	checkChange(t, "skip close;", "skip close;\n skip none;", api.ErrDuplicate, "skip none")
	checkChange(t, "method irv;\n    seats 1;\n    ranks 3;", "method irv; seats 2;", api.ErrMissing, "contest mayor")
	s := parse(t, change(t, example, "contest mayor", "contest council"))
	s.Blocks[4].Fields = nil
	checkFault(t, s, api.ErrDuplicate, s.Blocks[4].Line, "the head of a block comes before its fields")
}
