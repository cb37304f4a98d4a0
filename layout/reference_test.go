package layout

import (
	"fmt"
	"math"
	"math/rand"
	"reflect"
	"slices"
	"strconv"
	"strings"
	"testing"

	"election/api"
	"election/schema"
)

// A plan has the rows of cells of a sheet: # is a cell of the frame, o a target, and . any other cell. The reference works on plans and on pictures of text, in which # is a filled pixel.
type plan []string

// extremes are numbers whose sums and products overflow.
var extremes = []int{math.MinInt, math.MinInt + 1, -1 << 62, -1 << 32, 1 << 32, 1 << 62, math.MaxInt - 1, math.MaxInt}

// styleOf returns the only style of a precinct of a valid election.
func styleOf(e api.Election, precinct int) int {
	for i, s := range e.Styles {
		for _, p := range s.Precincts {
			if p == precinct {
				return i
			}
		}
	}
	return -1
}

// makePlan returns the plan of the sheet of a precinct of a valid election.
func makePlan(e api.Election, precinct int) plan {
	code := fmt.Sprintf("%04b", precinct+1)
	code += strconv.Itoa(strings.Count(code, "1") % 2)
	rows := plan{"##" + strings.NewReplacer("0", ".", "1", "#").Replace(code)}
	for _, contest := range e.Styles[styleOf(e, precinct)].Contests {
		c := e.Contests[contest]
		rows = append(rows, slices.Repeat(plan{"#." + strings.Repeat("o", c.Ranks)}, len(c.Candidates))...)
		rows = append(rows, "#")
	}
	width := len(slices.MaxFunc(rows, func(a, b string) int { return len(a) - len(b) }))
	for i, row := range rows {
		rows[i] = row + strings.Repeat(".", width-len(row))
	}
	return rows
}

// draw returns the pixels of the sheet: each cell becomes a square and a gap, and there is a margin of three pixels.
func (p plan) draw(dots int, filled []int) []string {
	empty := strings.Repeat(".", 6+2*dots*len(p[0]))
	picture := []string{empty, empty, empty}
	target := -1
	for _, row := range p {
		line := "..."
		for _, cell := range row {
			pixel := "."
			if cell == 'o' {
				target++
			}
			if cell == '#' || cell == 'o' && slices.Contains(filled, target) {
				pixel = "#"
			}
			line += strings.Repeat(pixel, dots) + strings.Repeat(".", dots)
		}
		picture = append(picture, slices.Repeat([]string{line + "..."}, dots)...)
		picture = append(picture, slices.Repeat([]string{empty}, dots)...)
	}
	return append(picture, empty, empty, empty)
}

// toImage writes the rows as bits, one after the other, and takes eight of them for a byte.
func toImage(picture []string) api.Image {
	digits := strings.NewReplacer(".", "0", "#", "1").Replace(strings.Join(picture, ""))
	digits += strings.Repeat("0", (8-len(digits)%8)%8)
	i := api.Image{W: len(picture[0]), H: len(picture)}
	for d := range slices.Chunk([]byte(digits), 8) {
		b, err := strconv.ParseUint(string(d), 2, 8)
		if err != nil {
			panic(err)
		}
		i.Bits = append(i.Bits, byte(b))
	}
	return i
}

// wantLayout finds the places of the targets on the plan, and the size on the picture.
func wantLayout(e api.Election, precinct int) api.Layout {
	p := makePlan(e, precinct)
	picture := p.draw(e.Dots, nil)
	l := api.Layout{Precinct: precinct, Style: styleOf(e, precinct), W: len(picture[0]), H: len(picture), Dots: e.Dots}
	var places [][2]int
	for r, row := range p {
		for c, cell := range row {
			if cell == 'o' {
				places = append(places, [2]int{3 + 2*e.Dots*c, 3 + 2*e.Dots*r})
			}
		}
	}
	for _, contest := range e.Styles[l.Style].Contests {
		for candidate := range e.Contests[contest].Candidates {
			for rank := range e.Contests[contest].Ranks {
				at := places[len(l.Targets)]
				l.Targets = append(l.Targets, api.Target{Contest: contest, Candidate: candidate, Rank: rank, X: at[0], Y: at[1]})
			}
		}
	}
	return l
}

// names returns count different names.
func names(count int) []string {
	var list []string
	for i := range count {
		list = append(list, fmt.Sprintf("n%d", i))
	}
	return list
}

// single returns an election with this number of precincts, which have one style, with one contest.
func single(t testing.TB, dots, precincts, candidates, ranks int) api.Election {
	t.Helper()
	e := api.Election{
		Dots: dots, Blank: 20, Marked: 50,
		Precincts: names(precincts),
		Contests:  []api.Contest{{Name: "c", Candidates: names(candidates), Method: api.MethodIRV, Seats: 1, Ranks: ranks, Ties: api.TieLot, Overvote: api.OvervoteStop, Skip: api.SkipTwo}},
		Styles:    []api.Style{{Name: "s", Contests: []int{0}}},
		Scanners:  1, Batch: 1, Cell: 1,
		Risk: api.Ratio{Num: api.Nat{1}, Den: api.Nat{20}},
	}
	for p := range precincts {
		e.Styles[0].Precincts = append(e.Styles[0].Precincts, p)
	}
	checkValid(t, e)
	return e
}

// randomElection returns an election whose styles have precincts and contests in any order.
func randomElection(t *testing.T, r *rand.Rand) api.Election {
	t.Helper()
	e := single(t, 2+r.Intn(6), 1+r.Intn(12), 1, 1)
	model := e.Contests[0]
	e.Contests, e.Styles = nil, nil
	for i := range 1 + r.Intn(4) {
		c := model
		c.Name, c.Candidates, c.Ranks = fmt.Sprintf("c%d", i), names(1+r.Intn(7)), 1+r.Intn(7)
		e.Contests = append(e.Contests, c)
	}
	for precincts := r.Perm(len(e.Precincts)); len(precincts) > 0; {
		n := 1 + r.Intn(len(precincts))
		if len(e.Styles) == 5 {
			n = len(precincts)
		}
		s := api.Style{Name: fmt.Sprintf("s%d", len(e.Styles)), Precincts: slices.Clone(precincts[:n])}
		s.Contests = r.Perm(len(e.Contests))[:1+r.Intn(len(e.Contests))]
		e.Styles, precincts = append(e.Styles, s), precincts[n:]
	}
	checkValid(t, e)
	return e
}

func checkValid(t testing.TB, e api.Election) {
	t.Helper()
	if !schema.Valid(e) {
		t.Fatalf("the election of the test is not valid: %v", e)
	}
}

// preview describes the beginning of a value, for the messages of tests.
func preview(value any) string {
	text := fmt.Sprint(value)
	return text[:min(len(text), 300)]
}

// checkSheet checks all functions for a precinct of a valid election.
func checkSheet(t *testing.T, e api.Election, precinct int, filled []int) {
	t.Helper()
	if l, err := Make(e, precinct); err != api.OK || !reflect.DeepEqual(l, wantLayout(e, precinct)) {
		t.Fatalf("Make of precinct %d of %v is %s, %d; want %s", precinct, e, preview(l), err, preview(wantLayout(e, precinct)))
	}
	p := makePlan(e, precinct)
	if i, err := Print(e, precinct); err != api.OK || !reflect.DeepEqual(i, toImage(p.draw(e.Dots, nil))) {
		t.Fatalf("Print of precinct %d of %v is %s, %d", precinct, e, preview(i), err)
	}
	if i, err := Draw(e, precinct, filled); err != api.OK || !reflect.DeepEqual(i, toImage(p.draw(e.Dots, filled))) {
		t.Fatalf("Draw of precinct %d of %v with %v is %s, %d", precinct, e, filled, preview(i), err)
	}
}

// checkErrors checks that all functions have an error, and no result.
func checkErrors(t *testing.T, e api.Election, precinct int, filled []int, want api.Errno) {
	t.Helper()
	if l, err := Make(e, precinct); err != want || !reflect.DeepEqual(l, api.Layout{}) {
		t.Errorf("Make of precinct %d of %s is %s, %d; want the error %d", precinct, preview(e), preview(l), err, want)
	}
	if i, err := Print(e, precinct); err != want || !reflect.DeepEqual(i, api.Image{}) {
		t.Errorf("Print of precinct %d of %s is %s, %d; want the error %d", precinct, preview(e), preview(i), err, want)
	}
	checkDrawError(t, e, precinct, filled, want)
}

func checkDrawError(t *testing.T, e api.Election, precinct int, filled []int, want api.Errno) {
	t.Helper()
	if i, err := Draw(e, precinct, filled); err != want || !reflect.DeepEqual(i, api.Image{}) {
		t.Errorf("Draw of precinct %d of %s with %s is %s, %d; want the error %d", precinct, preview(e), preview(filled), preview(i), err, want)
	}
}
