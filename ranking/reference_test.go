package ranking

import (
	"fmt"
	"math"
	"math/rand"
	"slices"
	"strings"
	"testing"

	"election/api"
	"election/schema"
)

// extremes are numbers whose sums and products overflow.
var extremes = []int{math.MinInt, math.MinInt + 1, -1 << 62, -1 << 32, 1 << 32, 1 << 62, math.MaxInt - 1, math.MaxInt}

// contestsOf returns the contests on the sheet of a precinct of a valid election.
func contestsOf(e api.Election, precinct int) []int {
	for _, style := range e.Styles {
		if slices.Contains(style.Precincts, precinct) {
			return style.Contests
		}
	}
	return nil
}

// targetsOf returns the number of targets on the sheet of a precinct of a valid election.
func targetsOf(e api.Election, precinct int) int {
	count := 0
	for _, contest := range contestsOf(e, precinct) {
		count += len(e.Contests[contest].Candidates) * e.Contests[contest].Ranks
	}
	return count
}

// votesOf is the reference of Votes, for judgements that are valid. It asks for each rank and candidate how the target is judged.
func votesOf(e api.Election, precinct int, judged []int) []api.Vote {
	var votes []api.Vote
	for _, contest := range contestsOf(e, precinct) {
		c := e.Contests[contest]
		v := api.Vote{Contest: contest}
		for rank := range c.Ranks {
			var marked []int
			for candidate := range c.Candidates {
				if judged[candidate*c.Ranks+rank] == api.MarkFilled {
					marked = append(marked, candidate)
				}
			}
			v.Ranks = append(v.Ranks, marked)
		}
		votes = append(votes, v)
		judged = judged[len(c.Candidates)*c.Ranks:]
	}
	return votes
}

// prefsOf is the reference of Prefs, for few ranks. It writes each rank as a letter (a sole mark), - (blank) or + (overvoted), and cuts the text where the ranking ends.
func prefsOf(c api.Contest, v api.Vote) []int {
	text := ""
	for rank := range c.Ranks {
		text += letterOf(c, v, rank)
	}
	if c.Overvote == api.OvervoteSkip {
		text = strings.ReplaceAll(text, "+", "-")
	}
	text, _, _ = strings.Cut(text, "+")
	switch c.Skip {
	case api.SkipClose:
	case api.SkipTwo:
		text, _, _ = strings.Cut(text, "--")
	default:
		text, _, _ = strings.Cut(text, "-")
	}
	var ranking []int
	for k, letter := range text {
		if letter != '-' && strings.IndexRune(text, letter) == k {
			ranking = append(ranking, int(letter-'A'))
		}
	}
	return ranking
}

func letterOf(c api.Contest, v api.Vote, rank int) string {
	marked := map[int]bool{}
	if rank < len(v.Ranks) {
		for _, candidate := range v.Ranks[rank] {
			if 0 <= candidate && candidate < len(c.Candidates) {
				marked[candidate] = true
			}
		}
	}
	letter := "-"
	for candidate := range marked {
		letter = string(rune('A' + candidate))
	}
	if len(marked) > 1 {
		return "+"
	}
	return letter
}

// checkSheet compares Votes with the reference, for judgements that are valid.
func checkSheet(t *testing.T, e api.Election, precinct int, judged []int) {
	t.Helper()
	checkVotes(t, e, precinct, judged, votesOf(e, precinct, judged), slices.Contains(judged, 2))
}

// checkVotes checks that Votes returns these votes.
func checkVotes(t *testing.T, e api.Election, precinct int, judged []int, want []api.Vote, doubt bool) {
	t.Helper()
	got, gotDoubt, err := Votes(e, precinct, judged)
	if err != api.OK || gotDoubt != doubt || !equalVotes(got, want) {
		t.Fatalf("the votes of precinct %d with %s are %v, %v, %d; want %v, %v; the election is %s", precinct, preview(judged), got, gotDoubt, err, want, doubt, preview(e))
	}
}

// checkError checks that Votes returns an error, and nothing else.
func checkError(t *testing.T, e api.Election, precinct int, judged []int, want api.Errno) {
	t.Helper()
	if got, doubt, err := Votes(e, precinct, judged); err != want || doubt || len(got) != 0 {
		t.Errorf("the votes of precinct %d with %s are %v, %v, %d; want the error %d; the election is %s", precinct, preview(judged), got, doubt, err, want, preview(e))
	}
}

// checkVote compares Prefs with the reference.
func checkVote(t *testing.T, c api.Contest, v api.Vote) {
	t.Helper()
	checkPrefs(t, c, v, prefsOf(c, v))
}

// checkPrefs checks that Prefs returns this ranking.
func checkPrefs(t *testing.T, c api.Contest, v api.Vote, want []int) {
	t.Helper()
	if got := Prefs(c, v); !slices.Equal(got, want) {
		t.Fatalf("the ranking of %s is %s, want %s; the contest is %s", preview(v), preview(got), preview(want), preview(c))
	}
}

// equalVotes does not tell a list without elements from nil.
func equalVotes(a, b []api.Vote) bool {
	return slices.EqualFunc(a, b, func(a, b api.Vote) bool {
		return a.Contest == b.Contest && slices.EqualFunc(a.Ranks, b.Ranks, slices.Equal)
	})
}

// preview describes the beginning of a value, for the messages of tests.
func preview(value any) string {
	text := fmt.Sprintf("%+v", value)
	return text[:min(len(text), 300)]
}

// names returns count different names.
func names(count int) []string {
	var list []string
	for i := range count {
		list = append(list, fmt.Sprintf("n%d", i))
	}
	return list
}

// contest returns a contest with three candidates.
func contest(ranks, overvote, skip int) api.Contest {
	return api.Contest{Name: "c", Candidates: names(3), Method: api.MethodIRV, Seats: 1, Ranks: ranks, Ties: api.TieLot, Overvote: overvote, Skip: skip}
}

// single returns an election with this number of precincts, which have one style, with one contest.
func single(t testing.TB, dots, precincts, candidates, ranks int) api.Election {
	t.Helper()
	e := api.Election{
		Dots: dots, Blank: 20, Marked: 50,
		Precincts: names(precincts),
		Contests:  []api.Contest{contest(ranks, api.OvervoteStop, api.SkipTwo)},
		Styles:    []api.Style{{Name: "s", Contests: []int{0}}},
		Scanners:  1, Batch: 1, Cell: 1,
		Risk: api.Ratio{Num: api.Nat{1}, Den: api.Nat{20}},
	}
	e.Contests[0].Candidates = names(candidates)
	for p := range precincts {
		e.Styles[0].Precincts = append(e.Styles[0].Precincts, p)
	}
	checkValid(t, e)
	return e
}

// town has four precincts with three styles, whose contests are not in the order of the election. The sheets have 6, 11 and 8 targets.
func town(t testing.TB) api.Election {
	t.Helper()
	e := single(t, 2, 4, 2, 3)
	second, third := e.Contests[0], e.Contests[0]
	second.Name, second.Candidates, second.Ranks = "d", names(1), 5
	third.Name, third.Candidates, third.Ranks = "e", names(4), 2
	e.Contests = append(e.Contests, second, third)
	e.Styles = []api.Style{
		{Name: "s", Precincts: []int{1}, Contests: []int{0}},
		{Name: "r", Precincts: []int{3, 0}, Contests: []int{1, 0}},
		{Name: "q", Precincts: []int{2}, Contests: []int{2}},
	}
	checkValid(t, e)
	return e
}

// greatest has all limits at once.
func greatest(t testing.TB) api.Election {
	t.Helper()
	e := single(t, 7, 12, 7, 7)
	for _, name := range []string{"d", "e", "f"} {
		c := e.Contests[0]
		c.Name = name
		e.Contests = append(e.Contests, c)
	}
	e.Styles[0].Contests = []int{3, 1, 0, 2}
	checkValid(t, e)
	return e
}

// randomElection returns an election whose styles have precincts and contests in any order.
func randomElection(t testing.TB, r *rand.Rand) api.Election {
	t.Helper()
	e := single(t, 2+r.Intn(6), 1+r.Intn(5), 1, 1)
	model := e.Contests[0]
	e.Contests, e.Styles = nil, nil
	for i := range 1 + r.Intn(4) {
		c := model
		c.Name, c.Candidates, c.Ranks = fmt.Sprintf("c%d", i), names(1+r.Intn(7)), 1+r.Intn(7)
		c.Overvote, c.Skip = 1+r.Intn(2), 1+r.Intn(3)
		e.Contests = append(e.Contests, c)
	}
	for precincts := r.Perm(len(e.Precincts)); len(precincts) > 0; {
		n := 1 + r.Intn(len(precincts))
		s := api.Style{Name: fmt.Sprintf("s%d", len(e.Styles)), Precincts: slices.Clone(precincts[:n])}
		s.Contests = r.Perm(len(e.Contests))[:1+r.Intn(len(e.Contests))]
		e.Styles, precincts = append(e.Styles, s), precincts[n:]
	}
	checkValid(t, e)
	return e
}

func checkValid(t testing.TB, e api.Election) {
	t.Helper()
	if !schema.Valid(e) {
		t.Fatalf("the election of the test is not valid: %v", e)
	}
}
