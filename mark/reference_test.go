package mark

import (
	"fmt"
	"math"
	"math/big"
	"math/rand"
	"slices"
	"strings"
	"testing"

	"election/api"
	"election/schema"
)

// A picture has the rows of an image, in which # is a filled pixel. The reference works on pictures and on the election alone.
type picture []string

// extremes are numbers whose sums and products overflow.
var extremes = []int{math.MinInt, math.MinInt + 1, -1 << 62, -1 << 32, 1 << 32, 1 << 62, math.MaxInt - 1, math.MaxInt}

func makePicture(w, h int, filled func(x, y int) bool) picture {
	var p picture
	for y := range h {
		row := []byte(strings.Repeat(".", w))
		for x := range w {
			if filled(x, y) {
				row[x] = '#'
			}
		}
		p = append(p, string(row))
	}
	return p
}

func (p picture) toImage() api.Image {
	i := api.Image{W: len(p[0]), H: len(p)}
	i.Bits = make([]byte, (i.W*i.H+7)/8)
	for n, pixel := range strings.Join(p, "") {
		if pixel == '#' {
			i.Bits[n/8] |= 128 >> (n % 8)
		}
	}
	return i
}

// count returns the number of filled pixels of a square, parts of which may be outside of the picture.
func (p picture) count(x, y, side int) int {
	n := 0
	for row := y; row < min(y+side, len(p)); row++ {
		from, to := min(x, len(p[row])), min(x+side, len(p[row]))
		n += strings.Count(p[row][from:to], "#")
	}
	return n
}

// A pixel is given by its column and its row.
type pixel struct{ x, y int }

// sheetOf returns the size of the sheet of a precinct of a valid election, and the upper left pixels of its targets.
func sheetOf(e api.Election, precinct int) (w, h int, corners []pixel) {
	side := 2 * e.Dots
	columns, row := 7, 1
	for _, style := range e.Styles {
		if !slices.Contains(style.Precincts, precinct) {
			continue
		}
		for _, contest := range style.Contests {
			c := e.Contests[contest]
			for range c.Candidates {
				for column := 2; column < 2+c.Ranks; column++ {
					corners = append(corners, pixel{3 + side*column, 3 + side*row})
					columns = max(columns, column+1)
				}
				row++
			}
			row++
		}
	}
	return 6 + side*columns, 6 + side*row, corners
}

// judgement compares the share of the filled pixels with the percents.
func judgement(e api.Election, n int) int {
	share := big.NewRat(int64(n), int64(e.Dots*e.Dots))
	if share.Cmp(big.NewRat(int64(e.Marked), 100)) >= 0 {
		return api.MarkFilled
	}
	if share.Cmp(big.NewRat(int64(e.Blank), 100)) < 0 {
		return api.MarkBlank
	}
	return api.MarkDoubt
}

// drawCounts returns a picture of a precinct's sheet on which the targets have these numbers of filled pixels, at random places. Outside of the targets, about one of so many pixels is filled; with 0, none is.
func drawCounts(r *rand.Rand, e api.Election, precinct int, counts []int, noise int) picture {
	w, h, corners := sheetOf(e, precinct)
	filled := map[pixel]bool{}
	for k, corner := range corners {
		for n, at := range r.Perm(e.Dots * e.Dots) {
			filled[pixel{corner.x + at%e.Dots, corner.y + at/e.Dots}] = n < counts[k]
		}
	}
	return makePicture(w, h, func(x, y int) bool {
		on, is := filled[pixel{x, y}]
		return on || !is && noise > 0 && r.Intn(noise) == 0
	})
}

// checkSheet compares both functions with the reference, for a picture that has the size of the sheet, and returns the judgements.
func checkSheet(t *testing.T, e api.Election, precinct int, p picture) []int {
	t.Helper()
	i := p.toImage()
	_, _, corners := sheetOf(e, precinct)
	var want []int
	for _, corner := range corners {
		want = append(want, judgement(e, p.count(corner.x, corner.y, e.Dots)))
	}
	checkDensities(t, e, precinct, p)
	got, err := Judge(e, precinct, i)
	if err != api.OK || !slices.Equal(got, want) {
		t.Errorf("Judge of precinct %d is %v, %d; want %v, with %s and the picture\n%s", precinct, got, err, want, preview(e), strings.Join(p, "\n"))
	}
	return got
}

// checkDensities compares Density with the reference, for a picture of any size.
func checkDensities(t *testing.T, e api.Election, precinct int, p picture) {
	t.Helper()
	i := p.toImage()
	_, _, corners := sheetOf(e, precinct)
	for k, corner := range corners {
		want := p.count(corner.x, corner.y, e.Dots)
		if got := Density(e, precinct, i, k); got != want {
			t.Fatalf("the density of target %d of precinct %d is %d, want %d, with %s and the picture\n%s", k, precinct, got, want, preview(e), strings.Join(p, "\n"))
		}
	}
}

// checkJudgements checks that Judge returns these judgements.
func checkJudgements(t *testing.T, e api.Election, precinct int, i api.Image, want []int) {
	t.Helper()
	if got, err := Judge(e, precinct, i); err != api.OK || !slices.Equal(got, want) {
		t.Errorf("Judge of precinct %d is %v, %d; want %v, with %s and the image %s", precinct, got, err, want, preview(e), preview(i))
	}
}

// checkError checks that Judge returns an error, and no judgements.
func checkError(t *testing.T, e api.Election, precinct int, i api.Image, want api.Errno) {
	t.Helper()
	if got, err := Judge(e, precinct, i); err != want || len(got) != 0 {
		t.Errorf("Judge of precinct %d is %v, %d; want the error %d, with %s and the image %s", precinct, got, err, want, preview(e), preview(i))
	}
}

// checkNoDensity checks that Density is 0.
func checkNoDensity(t *testing.T, e api.Election, precinct int, i api.Image, target int) {
	t.Helper()
	if got := Density(e, precinct, i, target); got != 0 {
		t.Errorf("the density of target %d of precinct %d is %d, with %s and the image %s", target, precinct, got, preview(e), preview(i))
	}
}

// preview describes the beginning of a value, for the messages of tests.
func preview(value any) string {
	text := fmt.Sprintf("%+v", value)
	return text[:min(len(text), 300)]
}

// names returns count different names.
func names(count int) []string {
	var list []string
	for i := range count {
		list = append(list, fmt.Sprintf("n%d", i))
	}
	return list
}

// single returns an election with this number of precincts, which have one style, with one contest.
func single(t testing.TB, dots, precincts, candidates, ranks int) api.Election {
	t.Helper()
	e := api.Election{
		Dots: dots, Blank: 20, Marked: 50,
		Precincts: names(precincts),
		Contests:  []api.Contest{{Name: "c", Candidates: names(candidates), Method: api.MethodIRV, Seats: 1, Ranks: ranks, Ties: api.TieLot, Overvote: api.OvervoteStop, Skip: api.SkipTwo}},
		Styles:    []api.Style{{Name: "s", Contests: []int{0}}},
		Scanners:  1, Batch: 1, Cell: 1,
		Risk: api.Ratio{Num: api.Nat{1}, Den: api.Nat{20}},
	}
	for p := range precincts {
		e.Styles[0].Precincts = append(e.Styles[0].Precincts, p)
	}
	checkValid(t, e)
	return e
}

// town has four precincts with three styles, whose contests are not in the order of the election. The sheets of the precincts 0, 2 and 3 have the same size.
func town(t testing.TB, dots int) api.Election {
	t.Helper()
	e := single(t, dots, 4, 2, 3)
	second, third := e.Contests[0], e.Contests[0]
	second.Name, second.Candidates, second.Ranks = "d", names(1), 5
	third.Name, third.Candidates, third.Ranks = "e", names(4), 2
	e.Contests = append(e.Contests, second, third)
	e.Styles = []api.Style{
		{Name: "s", Precincts: []int{1}, Contests: []int{0}},
		{Name: "r", Precincts: []int{3, 0}, Contests: []int{1, 0}},
		{Name: "q", Precincts: []int{2}, Contests: []int{2}},
	}
	checkValid(t, e)
	return e
}

// greatest has all limits at once.
func greatest(t testing.TB) api.Election {
	t.Helper()
	e := single(t, 7, 12, 7, 7)
	for _, name := range []string{"d", "e", "f"} {
		c := e.Contests[0]
		c.Name = name
		e.Contests = append(e.Contests, c)
	}
	e.Styles[0].Contests = []int{3, 1, 0, 2}
	checkValid(t, e)
	return e
}

// randomElection returns an election whose styles have precincts and contests in any order.
func randomElection(t testing.TB, r *rand.Rand) api.Election {
	t.Helper()
	e := single(t, 2+r.Intn(6), 1+r.Intn(5), 1, 1)
	e.Marked = 1 + r.Intn(100)
	e.Blank = 1 + r.Intn(e.Marked)
	model := e.Contests[0]
	e.Contests, e.Styles = nil, nil
	for i := range 1 + r.Intn(4) {
		c := model
		c.Name, c.Candidates, c.Ranks = fmt.Sprintf("c%d", i), names(1+r.Intn(7)), 1+r.Intn(7)
		e.Contests = append(e.Contests, c)
	}
	for precincts := r.Perm(len(e.Precincts)); len(precincts) > 0; {
		n := 1 + r.Intn(len(precincts))
		s := api.Style{Name: fmt.Sprintf("s%d", len(e.Styles)), Precincts: slices.Clone(precincts[:n])}
		s.Contests = r.Perm(len(e.Contests))[:1+r.Intn(len(e.Contests))]
		e.Styles, precincts = append(e.Styles, s), precincts[n:]
	}
	checkValid(t, e)
	return e
}

func checkValid(t testing.TB, e api.Election) {
	t.Helper()
	if !schema.Valid(e) {
		t.Fatalf("the election of the test is not valid: %v", e)
	}
}
