package ranking

import (
	"math"
	"math/rand"
	"slices"
	"testing"

	"election/api"
	"election/layout"
	"election/mark"
)

// TestVotesExample has two contests, of which the second one of the election comes first on the sheet.
func TestVotesExample(t *testing.T) {
	e := town(t)
	// The targets of contest 1 (1 candidate, 5 ranks), then those of contest 0 (2 candidates, 3 ranks).
	judged := []int{0, 1, 2, 0, 1, 0, 1, 1, 0, 1, 2}
	want := []api.Vote{
		{Contest: 1, Ranks: [][]int{{}, {0}, {}, {}, {0}}},
		{Contest: 0, Ranks: [][]int{{}, {0, 1}, {0}}},
	}
	checkVotes(t, e, 0, judged, want, true)
	checkVotes(t, e, 3, judged, want, true)
	judged[2], judged[10] = 0, 0
	checkVotes(t, e, 0, judged, want, false)
	checkVotes(t, e, 1, []int{1, 0, 0, 1, 0, 1}, []api.Vote{{Contest: 0, Ranks: [][]int{{0, 1}, {}, {1}}}}, false)
	checkVotes(t, e, 2, []int{0, 1, 1, 0, 0, 0, 1, 1}, []api.Vote{{Contest: 2, Ranks: [][]int{{1, 3}, {0, 3}}}}, false)
}

// TestBlankSheet: a list belongs to each rank, even if nothing is marked.
func TestBlankSheet(t *testing.T) {
	e := town(t)
	checkVotes(t, e, 0, make([]int, 11), []api.Vote{{Contest: 1, Ranks: make([][]int, 5)}, {Contest: 0, Ranks: make([][]int, 3)}}, false)
	checkVotes(t, e, 1, make([]int, 6), []api.Vote{{Contest: 0, Ranks: make([][]int, 3)}}, false)
	checkVotes(t, e, 2, make([]int, 8), []api.Vote{{Contest: 2, Ranks: make([][]int, 2)}}, false)
}

// TestEachTarget gives one target after the other each judgement, on a sheet that is blank, filled or doubtful otherwise.
func TestEachTarget(t *testing.T) {
	for _, e := range []api.Election{town(t), single(t, 2, 1, 1, 1), greatest(t)} {
		for precinct := range min(4, len(e.Precincts)) {
			for other := range 3 {
				judged := slices.Repeat([]int{other}, targetsOf(e, precinct))
				for k := range judged {
					for judgement := range 3 {
						judged[k] = judgement
						checkSheet(t, e, precinct, judged)
					}
					judged[k] = other
				}
			}
		}
	}
}

// TestAllJudgements has all sheets of a small precinct.
func TestAllJudgements(t *testing.T) {
	e := town(t)
	judged := make([]int, targetsOf(e, 2))
	for next := true; next; {
		checkSheet(t, e, 2, judged)
		next = false
		for k := range judged {
			judged[k] = (judged[k] + 1) % 3
			if judged[k] != 0 {
				next = true
				break
			}
		}
	}
}

func TestRandomSheets(t *testing.T) {
	r := rand.New(rand.NewSource(1))
	for range 400 {
		e := randomElection(t, r)
		for precinct := range e.Precincts {
			judged := make([]int, targetsOf(e, precinct))
			kinds := 1 + r.Intn(3)
			for k := range judged {
				judged[k] = r.Intn(kinds)
			}
			checkSheet(t, e, precinct, judged)
		}
	}
}

// TestSizesOfContests has contests of all sizes, filled and blank.
func TestSizesOfContests(t *testing.T) {
	for candidates := 1; candidates <= api.MaxCandidates; candidates++ {
		for ranks := 1; ranks <= api.MaxRanks; ranks++ {
			e := single(t, 3, 2, candidates, ranks)
			for judgement := range 3 {
				checkSheet(t, e, 1, slices.Repeat([]int{judgement}, candidates*ranks))
			}
		}
	}
}

// TestDrawnSheets reads the rankings from drawn sheets.
func TestDrawnSheets(t *testing.T) {
	e := town(t)
	for _, x := range []struct {
		precinct int
		filled   []int
		want     [][]int
	}{
		{0, []int{0, 5, 9}, [][]int{{0}, {0, 1}}},
		{0, []int{1, 8, 6}, [][]int{{0}, {1, 0}}},
		{0, []int{2, 10}, [][]int{{}, {}}},
		{2, []int{4, 7}, [][]int{{2, 3}}},
		{2, []int{4, 6, 1}, [][]int{{}}},
		{1, nil, [][]int{{}}},
	} {
		sheet, _ := layout.Draw(e, x.precinct, x.filled)
		judged, _ := mark.Judge(e, x.precinct, sheet)
		votes, doubt, err := Votes(e, x.precinct, judged)
		if err != api.OK || doubt || len(votes) != len(x.want) {
			t.Fatal("Votes", x, votes, doubt, err)
		}
		for k, v := range votes {
			checkPrefs(t, e.Contests[v.Contest], v, x.want[k])
		}
	}
}

func TestNoSuchPrecinct(t *testing.T) {
	e := town(t)
	for _, precinct := range append(slices.Clone(extremes), -2, -1, 4, 5, 11, 12, 100) {
		for _, judged := range [][]int{nil, make([]int, 6), make([]int, 11), {3}, {-1, 5}} {
			checkError(t, e, precinct, judged, api.ErrRange)
		}
	}
	checkError(t, greatest(t), 12, make([]int, 196), api.ErrRange)
}

// TestLength has a wrong number of judgements, some of which are none.
func TestLength(t *testing.T) {
	e := town(t)
	for precinct, targets := range []int{11, 6, 8, 11} {
		for _, count := range []int{0, 1, 5, 6, 7, 8, 9, 10, 11, 12, 22, 1000} {
			if count == targets {
				continue
			}
			for _, judgement := range append(slices.Clone(extremes), -1, 0, 1, 2, 3) {
				checkError(t, e, precinct, slices.Repeat([]int{judgement}, count), api.ErrLength)
			}
		}
	}
	checkError(t, greatest(t), 0, make([]int, 195), api.ErrLength)
	checkError(t, greatest(t), 0, make([]int, 197), api.ErrLength)
}

// TestNoJudgement has one number that is no judgement, at each place.
func TestNoJudgement(t *testing.T) {
	e := town(t)
	for precinct := range e.Precincts {
		for _, other := range []int{api.MarkBlank, api.MarkFilled, api.MarkDoubt} {
			judged := slices.Repeat([]int{other}, targetsOf(e, precinct))
			for k := range judged {
				for _, number := range append(slices.Clone(extremes), -2, -1, 3, 4, 255, 256) {
					judged[k] = number
					checkError(t, e, precinct, judged, api.ErrKind)
				}
				judged[k] = other
			}
			checkSheet(t, e, precinct, judged)
		}
	}
}

// TestInvalidElections: an election that is not valid is the first error.
func TestInvalidElections(t *testing.T) {
	elections := []api.Election{{}, {Precincts: names(4), Styles: town(t).Styles}}
	for _, change := range []func(*api.Election){
		func(e *api.Election) { e.Dots = 1 },
		func(e *api.Election) { e.Dots = math.MaxInt },
		func(e *api.Election) { e.Blank = 51 },
		func(e *api.Election) { e.Marked = 101 },
		func(e *api.Election) { e.Title = "\n" },
		func(e *api.Election) { e.Precincts = nil },
		func(e *api.Election) { e.Precincts = names(13) },
		func(e *api.Election) { e.Precincts[3] = e.Precincts[0] },
		func(e *api.Election) { e.Contests = nil },
		func(e *api.Election) { e.Contests[0].Ranks = 0 },
		func(e *api.Election) { e.Contests[1].Ranks = 8 },
		func(e *api.Election) { e.Contests[1].Ranks = math.MinInt },
		func(e *api.Election) { e.Contests[2].Ranks = math.MaxInt },
		func(e *api.Election) { e.Contests[0].Candidates = nil },
		func(e *api.Election) { e.Contests[0].Candidates = names(8) },
		func(e *api.Election) { e.Contests[0].Overvote = 3 },
		func(e *api.Election) { e.Contests[0].Skip = 0 },
		func(e *api.Election) { e.Styles = e.Styles[:1] },
		func(e *api.Election) { e.Styles[1].Contests = []int{3} },
		func(e *api.Election) { e.Styles[1].Contests = []int{-1} },
		func(e *api.Election) { e.Styles[1].Contests = []int{0, 0} },
		func(e *api.Election) { e.Styles[1].Contests = nil },
		func(e *api.Election) { e.Styles[2].Precincts = []int{0} },
		func(e *api.Election) { e.Scanners = 0 },
		func(e *api.Election) { e.Risk.Den = nil },
		func(e *api.Election) { e.Cell = 0 },
	} {
		e := town(t)
		change(&e)
		elections = append(elections, e)
	}
	for _, e := range elections {
		for _, precinct := range append(slices.Clone(extremes), -1, 0, 1, 2, 3, 4) {
			for _, judged := range [][]int{nil, make([]int, 6), make([]int, 8), make([]int, 11), {3}, slices.Repeat([]int{1}, 11)} {
				checkError(t, e, precinct, judged, api.ErrForm)
			}
		}
	}
}
