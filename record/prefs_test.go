package record

import (
	"slices"
	"testing"

	"election/api"
)

// TestPrefs has votes in several contests, whose rules differ.
func TestPrefs(t *testing.T) {
	e := town(t)
	r := ballot()
	checkPrefs(t, e, r, 1, []int{0}, true)
	checkPrefs(t, e, r, 0, []int{1}, true)
	checkPrefs(t, e, r, 2, nil, false)
	r.Votes[1].Ranks = [][]int{{1}, {}, {0}}
	r.Doubt = true
	checkPrefs(t, e, r, 0, []int{1, 0}, true)
	r.Votes[1].Ranks = [][]int{{}, {}, {0}}
	checkPrefs(t, e, r, 0, nil, true)
	e.Contests[0].Skip = api.SkipClose
	checkPrefs(t, e, r, 0, []int{0}, true)

	r = api.Record{Precinct: 2, Votes: []api.Vote{{Contest: 2, Ranks: [][]int{{0, 1, 3}, {2}}}}}
	checkPrefs(t, e, r, 2, []int{2}, true)
	checkPrefs(t, e, r, 0, nil, false)
	checkPrefs(t, e, r, 1, nil, false)
	e.Contests[2].Overvote = api.OvervoteStop
	checkPrefs(t, e, r, 2, nil, true)
}

// TestBlankVote has a ranking without candidates, but has one.
func TestBlankVote(t *testing.T) {
	e := town(t)
	for precinct := range e.Precincts {
		r := recordOf(e, precinct, make([]int, targetsOf(e, precinct)))
		for contest := range e.Contests {
			checkPrefs(t, e, r, contest, nil, slices.Contains(contestsOf(e, precinct), contest))
		}
	}
}

// TestNoPrefs has a contest without a vote, the void record, and records that are not valid in another contest.
func TestNoPrefs(t *testing.T) {
	e := town(t)
	for _, contest := range append(slices.Clone(extremes), -2, -1, 0, 1, 2, 3, 4) {
		checkPrefs(t, e, Void(), contest, nil, false)
		checkPrefs(t, e, api.Record{}, contest, nil, false)
		if contest < 0 || contest > 1 {
			checkPrefs(t, e, ballot(), contest, nil, false)
		}
		r := ballot()
		r.Votes[0].Ranks[4] = []int{1}
		checkPrefs(t, e, r, contest, nil, false)
		r = ballot()
		r.Votes[1].Contest = contest
		if contest != 0 {
			checkPrefs(t, e, r, contest, nil, false)
			checkPrefs(t, e, r, 1, nil, false)
		}
	}
}
