package record

import (
	"bytes"
	"fmt"
	"math"
	"math/big"
	"math/rand"
	"slices"
	"strconv"
	"testing"

	"election/api"
	"election/image"
	"election/layout"
	"election/ranking"
	"election/schema"
)

// extremes are numbers whose sums, products and shifts overflow.
var extremes = []int{math.MinInt, math.MinInt + 1, -1 << 62, -1 << 32, 1 << 32, 1 << 62, math.MaxInt - 1, math.MaxInt}

// contestsOf returns the contests on the sheet of a precinct of a valid election.
func contestsOf(e api.Election, precinct int) []int {
	for _, style := range e.Styles {
		if slices.Contains(style.Precincts, precinct) {
			return style.Contests
		}
	}
	return nil
}

// isVoid is written without Equal.
func isVoid(r api.Record) bool { return r.Precinct == -1 && len(r.Votes) == 0 && !r.Doubt }

// validOf is the reference of Valid, for a valid election. It compares the shape of a record with that of a blank one, and each list with a list of all candidates.
func validOf(e api.Election, r api.Record) bool {
	if isVoid(r) {
		return true
	}
	if r.Precinct < 0 || r.Precinct >= len(e.Precincts) {
		return false
	}
	is, want := "", ""
	for _, v := range r.Votes {
		is += fmt.Sprintln(v.Contest, len(v.Ranks))
	}
	for _, contest := range contestsOf(e, r.Precinct) {
		want += fmt.Sprintln(contest, e.Contests[contest].Ranks)
	}
	if is != want {
		return false
	}
	for _, v := range r.Votes {
		for _, list := range v.Ranks {
			var ordered []int
			for candidate := range e.Contests[v.Contest].Candidates {
				if slices.Contains(list, candidate) {
					ordered = append(ordered, candidate)
				}
			}
			if !slices.Equal(list, ordered) {
				return false
			}
		}
	}
	return true
}

// encodingOf is the reference of Encode, for a valid record. It writes each byte as a binary number.
func encodingOf(r api.Record) []byte {
	if isVoid(r) {
		return []byte{255}
	}
	b := []byte{byte(r.Precinct), 0}
	if r.Doubt {
		b[1]++
	}
	for _, v := range r.Votes {
		for _, list := range v.Ranks {
			text := ""
			for candidate := range 8 {
				digit := "0"
				if slices.Contains(list, candidate) {
					digit = "1"
				}
				text = digit + text
			}
			code, _ := strconv.ParseUint(text, 2, 8)
			b = append(b, byte(code))
		}
	}
	return b
}

// recordOf returns the record of a sheet whose targets are judged so. It asks for each rank and candidate how the target is judged.
func recordOf(e api.Election, precinct int, judged []int) api.Record {
	r := api.Record{Precinct: precinct, Doubt: slices.Contains(judged, api.MarkDoubt)}
	for _, contest := range contestsOf(e, precinct) {
		c := e.Contests[contest]
		v := api.Vote{Contest: contest}
		for rank := range c.Ranks {
			var marked []int
			for candidate := range c.Candidates {
				if judged[candidate*c.Ranks+rank] == api.MarkFilled {
					marked = append(marked, candidate)
				}
			}
			v.Ranks = append(v.Ranks, marked)
		}
		r.Votes = append(r.Votes, v)
		judged = judged[len(c.Candidates)*c.Ranks:]
	}
	return r
}

// judgement compares the share of the filled pixels of a target with the percents.
func judgement(e api.Election, n int) int {
	share := big.NewRat(int64(n), int64(e.Dots*e.Dots))
	if share.Cmp(big.NewRat(int64(e.Marked), 100)) >= 0 {
		return api.MarkFilled
	}
	if share.Cmp(big.NewRat(int64(e.Blank), 100)) < 0 {
		return api.MarkBlank
	}
	return api.MarkDoubt
}

// drawCounts returns a sheet on which the targets have these numbers of filled pixels, at random places, and the record of it.
func drawCounts(t testing.TB, r *rand.Rand, e api.Election, precinct int, counts []int) (api.Image, api.Record) {
	t.Helper()
	l, _ := layout.Make(e, precinct)
	sheet, err := layout.Print(e, precinct)
	if err != api.OK || len(counts) != len(l.Targets) {
		t.Fatal("there is no such sheet", precinct, err, len(counts))
	}
	var judged []int
	for k, target := range l.Targets {
		for _, at := range r.Perm(e.Dots * e.Dots)[:counts[k]] {
			sheet = image.Fill(sheet, target.X+at%e.Dots, target.Y+at/e.Dots, 1, 1, true)
		}
		judged = append(judged, judgement(e, counts[k]))
	}
	return sheet, recordOf(e, precinct, judged)
}

// lay returns a scanned image of a sheet.
func lay(sheet api.Image, pose api.Pose) api.Image {
	if pose.Turned {
		sheet = image.Turn(sheet)
	}
	return image.Shift(sheet, pose.DX, pose.DY)
}

// targetsOf returns the number of targets on the sheet of a precinct of a valid election.
func targetsOf(e api.Election, precinct int) int {
	count := 0
	for _, contest := range contestsOf(e, precinct) {
		count += len(e.Contests[contest].Candidates) * e.Contests[contest].Ranks
	}
	return count
}

// equalRecords does not tell a list without elements from nil.
func equalRecords(a, b api.Record) bool { return fmt.Sprintf("%+v", a) == fmt.Sprintf("%+v", b) }

// checkValidity compares Valid, and what follows from it, with the reference, for a valid election, and reports whether the record is valid.
func checkValidity(t *testing.T, e api.Election, r api.Record) bool {
	t.Helper()
	if !validOf(e, r) {
		checkNoRecord(t, e, r)
		return false
	}
	checkRecord(t, e, r)
	return true
}

// checkRecord checks what all functions do with a valid record.
func checkRecord(t *testing.T, e api.Election, r api.Record) {
	t.Helper()
	if !Valid(e, r) {
		t.Fatalf("the record %s is not valid for %s", preview(r), preview(e))
	}
	checkEncoding(t, e, r, encodingOf(r)...)
	prefs := map[int][]int{}
	for _, v := range r.Votes {
		prefs[v.Contest] = ranking.Prefs(e.Contests[v.Contest], v)
	}
	for contest := -1; contest <= len(e.Contests); contest++ {
		want, ok := prefs[contest]
		checkPrefs(t, e, r, contest, want, ok)
	}
	for _, contest := range extremes {
		checkPrefs(t, e, r, contest, nil, false)
	}
}

// checkNoRecord checks what the functions do with a record that is not valid, or with an election that is not.
func checkNoRecord(t *testing.T, e api.Election, r api.Record) {
	t.Helper()
	if Valid(e, r) {
		t.Fatalf("the record %s is valid for %s", preview(r), preview(e))
	}
	if b := Encode(e, r); b != nil {
		t.Fatalf("the record %s has the encoding %v for %s", preview(r), b, preview(e))
	}
	for contest := -1; contest <= min(len(e.Contests), 9); contest++ {
		checkPrefs(t, e, r, contest, nil, false)
	}
	for _, v := range r.Votes[:min(len(r.Votes), 9)] {
		checkPrefs(t, e, r, v.Contest, nil, false)
	}
}

// checkEncoding checks that a record has this encoding, and that the encoding is that of the record.
func checkEncoding(t *testing.T, e api.Election, r api.Record, want ...byte) {
	t.Helper()
	if b := Encode(e, r); !bytes.Equal(b, want) {
		t.Fatalf("the encoding of %s is %v, want %v, for %s", preview(r), b, want, preview(e))
	}
	if got, ok := Decode(e, want); !ok || !equalRecords(got, r) {
		t.Fatalf("the record of %v is %s, %v, want %s, for %s", want, preview(got), ok, preview(r), preview(e))
	}
}

// checkNoEncoding checks that these bytes encode nothing.
func checkNoEncoding(t *testing.T, e api.Election, b ...byte) {
	t.Helper()
	if got, ok := Decode(e, b); ok || !equalRecords(got, api.Record{}) {
		t.Fatalf("the record of %v is %s, %v, for %s", b[:min(len(b), 50)], preview(got), ok, preview(e))
	}
}

func checkPrefs(t *testing.T, e api.Election, r api.Record, contest int, want []int, ok bool) {
	t.Helper()
	if got, gotOK := Prefs(e, r, contest); gotOK != ok || !slices.Equal(got, want) || !ok && got != nil {
		t.Fatalf("the ranking of %s in contest %d is %v, %v, want %v, %v, for %s", preview(r), contest, got, gotOK, want, ok, preview(e))
	}
}

// checkRead checks that an image has this record, and that the record is valid.
func checkRead(t *testing.T, e api.Election, i api.Image, want api.Record) {
	t.Helper()
	got, err := Read(e, i)
	if err != api.OK || !equalRecords(got, want) {
		t.Fatalf("the record of the image %s is %s, %d, want %s, for %s", preview(i), preview(got), err, preview(want), preview(e))
	}
	checkRecord(t, e, got)
}

// checkNoRead checks that an image has no record.
func checkNoRead(t *testing.T, e api.Election, i api.Image, want api.Errno) {
	t.Helper()
	if got, err := Read(e, i); err != want || !equalRecords(got, api.Record{}) {
		t.Fatalf("the record of the image %s is %s, %d, want the error %d, for %s", preview(i), preview(got), err, want, preview(e))
	}
}

// preview describes the beginning of a value, for the messages of tests.
func preview(value any) string {
	text := fmt.Sprintf("%+v", value)
	return text[:min(len(text), 400)]
}

// names returns count different names.
func names(count int) []string {
	var list []string
	for i := range count {
		list = append(list, fmt.Sprintf("n%d", i))
	}
	return list
}

// single returns an election with this number of precincts, which have one style, with one contest.
func single(t testing.TB, dots, precincts, candidates, ranks int) api.Election {
	t.Helper()
	e := api.Election{
		Dots: dots, Blank: 20, Marked: 50,
		Precincts: names(precincts),
		Contests:  []api.Contest{{Name: "c", Candidates: names(candidates), Method: api.MethodIRV, Seats: 1, Ranks: ranks, Ties: api.TieLot, Overvote: api.OvervoteStop, Skip: api.SkipTwo}},
		Styles:    []api.Style{{Name: "s", Contests: []int{0}}},
		Scanners:  1, Batch: 1, Cell: 1,
		Risk: api.Ratio{Num: api.Nat{1}, Den: api.Nat{20}},
	}
	for p := range precincts {
		e.Styles[0].Precincts = append(e.Styles[0].Precincts, p)
	}
	checkValid(t, e)
	return e
}

// town has four precincts with three styles, whose contests are not in the order of the election. The contests have 2, 1 and 4 candidates, and 3, 5 and 2 ranks. The sheets of the precincts 0, 2 and 3 have the same size.
func town(t testing.TB) api.Election {
	t.Helper()
	e := single(t, 2, 4, 2, 3)
	second, third := e.Contests[0], e.Contests[0]
	second.Name, second.Candidates, second.Ranks, second.Skip = "d", names(1), 5, api.SkipClose
	third.Name, third.Candidates, third.Ranks, third.Overvote = "e", names(4), 2, api.OvervoteSkip
	e.Contests = append(e.Contests, second, third)
	e.Styles = []api.Style{
		{Name: "s", Precincts: []int{1}, Contests: []int{0}},
		{Name: "r", Precincts: []int{3, 0}, Contests: []int{1, 0}},
		{Name: "q", Precincts: []int{2}, Contests: []int{2}},
	}
	checkValid(t, e)
	return e
}

// greatest has all limits at once.
func greatest(t testing.TB) api.Election {
	t.Helper()
	e := single(t, 7, 12, 7, 7)
	for _, name := range []string{"d", "e", "f"} {
		c := e.Contests[0]
		c.Name = name
		e.Contests = append(e.Contests, c)
	}
	e.Styles[0].Contests = []int{3, 1, 0, 2}
	checkValid(t, e)
	return e
}

// randomElection returns an election whose styles have precincts and contests in any order.
func randomElection(t testing.TB, r *rand.Rand) api.Election {
	t.Helper()
	e := single(t, 2+r.Intn(6), 1+r.Intn(12), 1, 1)
	e.Marked = 1 + r.Intn(100)
	e.Blank = 1 + r.Intn(e.Marked)
	model := e.Contests[0]
	e.Contests, e.Styles = nil, nil
	for i := range 1 + r.Intn(4) {
		c := model
		c.Name, c.Candidates, c.Ranks = fmt.Sprintf("c%d", i), names(1+r.Intn(7)), 1+r.Intn(7)
		c.Overvote, c.Skip = 1+r.Intn(2), 1+r.Intn(3)
		e.Contests = append(e.Contests, c)
	}
	for precincts := r.Perm(len(e.Precincts)); len(precincts) > 0; {
		n := 1 + r.Intn(len(precincts))
		if len(e.Styles) == api.MaxStyles-1 {
			n = len(precincts)
		}
		s := api.Style{Name: fmt.Sprintf("s%d", len(e.Styles)), Precincts: slices.Clone(precincts[:n])}
		s.Contests = r.Perm(len(e.Contests))[:1+r.Intn(len(e.Contests))]
		e.Styles, precincts = append(e.Styles, s), precincts[n:]
	}
	checkValid(t, e)
	return e
}

// randomRecord returns a record of a sheet, on which about one of so many targets is filled.
func randomRecord(r *rand.Rand, e api.Election, precinct, rarity int) api.Record {
	judged := make([]int, targetsOf(e, precinct))
	for k := range judged {
		if r.Intn(rarity) == 0 {
			judged[k] = api.MarkFilled
		}
	}
	record := recordOf(e, precinct, judged)
	record.Doubt = r.Intn(2) == 0
	return record
}

func checkValid(t testing.TB, e api.Election) {
	t.Helper()
	if !schema.Valid(e) {
		t.Fatalf("the election of the test is not valid: %v", e)
	}
}

// invalidElections returns elections that are not valid, most of which are a town apart from one fault.
func invalidElections(t testing.TB) []api.Election {
	t.Helper()
	elections := []api.Election{{}, {Precincts: names(4), Contests: town(t).Contests, Styles: town(t).Styles}}
	for _, change := range []func(*api.Election){
		func(e *api.Election) { e.Dots = 1 },
		func(e *api.Election) { e.Dots = math.MaxInt },
		func(e *api.Election) { e.Blank = 51 },
		func(e *api.Election) { e.Marked = 101 },
		func(e *api.Election) { e.Title = "\n" },
		func(e *api.Election) { e.Precincts = nil },
		func(e *api.Election) { e.Precincts = names(13) },
		func(e *api.Election) { e.Precincts = e.Precincts[:3] },
		func(e *api.Election) { e.Precincts[3] = e.Precincts[0] },
		func(e *api.Election) { e.Contests = nil },
		func(e *api.Election) { e.Contests[0].Ranks = 0 },
		func(e *api.Election) { e.Contests[1].Ranks = 8 },
		func(e *api.Election) { e.Contests[1].Ranks = math.MinInt },
		func(e *api.Election) { e.Contests[2].Ranks = math.MaxInt },
		func(e *api.Election) { e.Contests[0].Candidates = nil },
		func(e *api.Election) { e.Contests[0].Candidates = names(8) },
		func(e *api.Election) { e.Contests[0].Overvote = 3 },
		func(e *api.Election) { e.Contests[0].Skip = 0 },
		func(e *api.Election) { e.Styles = e.Styles[:1] },
		func(e *api.Election) { e.Styles[1].Contests = []int{3} },
		func(e *api.Election) { e.Styles[1].Contests = []int{-1} },
		func(e *api.Election) { e.Styles[1].Contests = []int{0, 0} },
		func(e *api.Election) { e.Styles[1].Contests = nil },
		func(e *api.Election) { e.Styles[2].Precincts = []int{0} },
		func(e *api.Election) { e.Styles[0].Precincts = []int{-1, 1, 255} },
		func(e *api.Election) { e.Scanners = 0 },
		func(e *api.Election) { e.Risk.Den = nil },
		func(e *api.Election) { e.Cell = 0 },
	} {
		e := town(t)
		change(&e)
		elections = append(elections, e)
	}
	return elections
}
