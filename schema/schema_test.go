package schema

import (
	"fmt"
	"reflect"
	"strings"
	"testing"

	"election/api"
	"election/ratio"
	"election/syntax"
)

// example has every kind of block and every field. Each field has a line of its own.
const example = `election "City election" {
  scan {
    dots 3;
    blank 10;
    marked 40;
  }
  scanners {
    count 2;
    batch 8;
  }
  precincts {
    names north, "South 1", west;
  }
  contest mayor {
    method irv;
    seats 1;
    ranks 3;
    ties backwards;
    overvote stop;
    skip close;
    candidates ann, bob, cem;
  }
  contest council {
    method meek;
    seats 2;
    ranks 4;
    digits 5;
    ties forwards;
    overvote skip;
    skip stop;
    candidates dan, "Eve E.", fay, 7;
  }
  contest board-2 {
    method gregory;
    seats 3;
    ranks 5;
    ties lot;
    overvote stop;
    skip two;
    candidates 1/2, gus;
  }
  style town {
    precincts west, north;
    contests council, mayor, board-2;
  }
  style land {
    precincts "South 1";
    contests board-2;
  }
  audit {
    risk 1/20;
    seed "8 1 6";
  }
  privacy {
    cell 5;
  }
}
`

// exampleElection returns what example compiles to.
func exampleElection() api.Election {
	return api.Election{
		Title: "City election",
		Dots:  3, Blank: 10, Marked: 40,
		Precincts: []string{"north", "South 1", "west"},
		Contests: []api.Contest{
			{Name: "mayor", Candidates: []string{"ann", "bob", "cem"}, Method: api.MethodIRV, Seats: 1, Ranks: 3, Ties: api.TieBackwards, Overvote: api.OvervoteStop, Skip: api.SkipClose},
			{Name: "council", Candidates: []string{"dan", "Eve E.", "fay", "7"}, Method: api.MethodMeek, Seats: 2, Ranks: 4, Digits: 5, Ties: api.TieForwards, Overvote: api.OvervoteSkip, Skip: api.SkipStop},
			{Name: "board-2", Candidates: []string{"1/2", "gus"}, Method: api.MethodGregory, Seats: 3, Ranks: 5, Ties: api.TieLot, Overvote: api.OvervoteStop, Skip: api.SkipTwo},
		},
		Styles: []api.Style{
			{Name: "town", Precincts: []int{2, 0}, Contests: []int{1, 0, 2}},
			{Name: "land", Precincts: []int{1}, Contests: []int{2}},
		},
		Scanners: 2, Batch: 8,
		Risk: api.Ratio{Num: api.Nat{1}, Den: api.Nat{20}},
		Cell: 5,
		Seed: "8 1 6",
	}
}

// preview returns the start of what a value looks like, for the messages of tests.
func preview(value any) string {
	text := fmt.Sprintf("%+v", value)
	return text[:min(len(text), 300)]
}

func parse(t *testing.T, text string) api.Source {
	t.Helper()
	s, fault := syntax.Parse(text)
	if fault != (api.Fault{}) {
		t.Fatalf("%q cannot be parsed: %v", preview(text), fault)
	}
	return s
}

// change returns the text with one part replaced, which must occur.
func change(t *testing.T, text, old, replacement string) string {
	t.Helper()
	if !strings.Contains(text, old) {
		t.Fatalf("there is no %q", old)
	}
	return strings.Replace(text, old, replacement, 1)
}

func checkCompile(t *testing.T, s api.Source, want api.Election) {
	t.Helper()
	got, fault := Compile(s)
	if fault != (api.Fault{}) || !reflect.DeepEqual(got, want) {
		t.Errorf("Compile is %s, %v, want %s and no fault", preview(got), fault, preview(want))
	}
}

func checkFault(t *testing.T, s api.Source, err api.Errno, line int, what string) {
	t.Helper()
	got, fault := Compile(s)
	if !reflect.ValueOf(got).IsZero() || fault != (api.Fault{Err: err, Line: line}) {
		t.Errorf("%s: Compile is %s, %v, want no election and error %d in line %d", preview(what), preview(got), fault, err, line)
	}
}

// lineOf returns the line in which a part of a text begins, or 0 for the part "".
func lineOf(t *testing.T, text, part string) int {
	t.Helper()
	before, _, ok := strings.Cut(text, part)
	if !ok {
		t.Fatalf("there is no %q", part)
	}
	if part == "" {
		return 0
	}
	return 1 + strings.Count(before, "\n")
}

// checkChange compiles the example with one part replaced, and wants an error in the line where another part of the changed text begins. With the error OK it wants an election.
func checkChange(t *testing.T, old, replacement string, err api.Errno, where string) {
	t.Helper()
	text := change(t, example, old, replacement)
	s := parse(t, text)
	if err != api.OK {
		checkFault(t, s, err, lineOf(t, text, where), fmt.Sprintf("%q for %q", replacement, old))
		return
	}
	if got, fault := Compile(s); fault != (api.Fault{}) || !Valid(got) {
		t.Errorf("%q for %q: Compile is %s, %v, want an election", replacement, old, preview(got), fault)
	}
}

func TestCompileExample(t *testing.T) {
	checkCompile(t, parse(t, example), exampleElection())
}

// TestOneContest is the first example of DOC.md.
func TestOneContest(t *testing.T) {
	s := parse(t, `election "" {
		style only { contests mayor; precincts p; }
		contest mayor { candidates ann, bob, cem; skip close; overvote skip; ties lot; ranks 1; seats 1; method irv; }
		privacy { cell 1; } audit { seed ""; risk 1/2; } precincts { names p; } scanners { batch 1; count 1; } scan { marked 1; blank 1; dots 2; } }`)
	checkCompile(t, s, api.Election{
		Dots: 2, Blank: 1, Marked: 1,
		Precincts: []string{"p"},
		Contests:  []api.Contest{{Name: "mayor", Candidates: []string{"ann", "bob", "cem"}, Method: api.MethodIRV, Seats: 1, Ranks: 1, Ties: api.TieLot, Overvote: api.OvervoteSkip, Skip: api.SkipClose}},
		Styles:    []api.Style{{Name: "only", Precincts: []int{0}, Contests: []int{0}}},
		Scanners:  1, Batch: 1,
		Risk: api.Ratio{Num: api.Nat{1}, Den: api.Nat{2}},
		Cell: 1,
	})
}

// TestOrderDoesNotMatter reverses the blocks and the fields; contests and styles keep the order of the text.
func TestOrderDoesNotMatter(t *testing.T) {
	s := parse(t, example)
	for i := range s.Blocks {
		fields := s.Blocks[i].Fields
		for a, b := 0, len(fields)-1; a < b; a, b = a+1, b-1 {
			fields[a], fields[b] = fields[b], fields[a]
		}
	}
	checkCompile(t, s, exampleElection())
	var reversed api.Source
	reversed.Title = s.Title
	for i := range s.Blocks {
		reversed.Blocks = append(reversed.Blocks, s.Blocks[len(s.Blocks)-1-i])
	}
	want := exampleElection()
	want.Contests[0], want.Contests[2] = want.Contests[2], want.Contests[0]
	want.Styles = []api.Style{
		{Name: "land", Precincts: []int{1}, Contests: []int{0}},
		{Name: "town", Precincts: []int{2, 0}, Contests: []int{1, 2, 0}},
	}
	checkCompile(t, reversed, want)
}

// TestSameNames shows which names may be equal: those of different kinds, of different contests, and of different styles.
func TestSameNames(t *testing.T) {
	checkChange(t, "candidates dan", "candidates ann", api.OK, "")
	checkChange(t, "style town", "style mayor", api.OK, "")
	text := strings.ReplaceAll(example, "north", "mayor")
	want := exampleElection()
	want.Precincts[0] = "mayor"
	checkCompile(t, parse(t, text), want)
	text = strings.ReplaceAll(example, "mayor", "names")
	want = exampleElection()
	want.Contests[0].Name = "names"
	checkCompile(t, parse(t, text), want)
}

func TestRisk(t *testing.T) {
	for text, want := range map[string]string{
		"1/20": "1/20", "5/100": "1/20", "1/2": "1/2", "1/1000": "1/1000", "499998/999997": "499998/999997", "499999/999998": "1/2", "499999/999999": "499999/999999",
		"1000/999999": "1000/999999", "999/999000": "1/1000", "250/500": "1/2", "6/4": "", "0/1": "", "0/0": "", "1/0": "", "999999/0": "", "1/1001": "", "999/999999": "", "2/3": "",
		"500000/999999": "", "1/1": "", "1000/1000": "", "999999/1": "",
	} {
		s := parse(t, change(t, example, "risk 1/20", "risk "+text))
		if want == "" {
			checkFault(t, s, api.ErrRange, lineOf(t, example, "risk"), text)
			continue
		}
		got, fault := Compile(s)
		if fault != (api.Fault{}) || ratio.Text(got.Risk) != want || !ratio.Valid(got.Risk) {
			t.Errorf("the risk %s is %v, %v, want %s", text, got.Risk, fault, want)
		}
	}
}

// TestStringsAreValues writes words, numbers and fractions as strings, which does not matter to Compile.
func TestStringsAreValues(t *testing.T) {
	text := example
	for _, value := range []string{"3", "40", "irv", "meek", "backwards", "stop", "close", "cem", "north", "board-2", "1/20", "7"} {
		text = change(t, text, " "+value+";", " \""+value+"\";")
	}
	checkCompile(t, parse(t, text), exampleElection())
}

func TestStyleOf(t *testing.T) {
	e := exampleElection()
	for precinct, want := range map[int]int{0: 0, 1: 1, 2: 0, 3: -1, -1: -1, 1 << 62: -1, -1 << 63: -1} {
		if got := StyleOf(e, precinct); got != want {
			t.Errorf("StyleOf precinct %d is %d, want %d", precinct, got, want)
		}
	}
	if StyleOf(api.Election{}, 0) != -1 {
		t.Error("the zero election has a style")
	}
	e.Styles = append(e.Styles, api.Style{Precincts: []int{1, 9, 9}}, api.Style{Precincts: []int{9, 8}})
	for precinct, want := range map[int]int{1: 1, 9: 2, 8: 3} {
		if got := StyleOf(e, precinct); got != want {
			t.Errorf("of an election that is not valid StyleOf precinct %d is %d, want %d", precinct, got, want)
		}
	}
}
