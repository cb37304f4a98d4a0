package ranking

import (
	"math"
	"reflect"
	"slices"
	"testing"

	"election/api"
)

// spare returns a copy of a list with spare capacity that is not zero.
func spare[T any](list []T, filler T) []T {
	return append(append([]T{}, list...), filler, filler)[:len(list)]
}

// whole returns a copy of a list in which its spare capacity belongs to it.
func whole[T any](list []T) []T { return append([]T{}, list[:cap(list)]...) }

func roomyElection(e api.Election) api.Election {
	e.Precincts = spare(e.Precincts, "spare")
	e.Risk.Num, e.Risk.Den = spare(e.Risk.Num, 9), spare(e.Risk.Den, 9)
	e.Contests, e.Styles = spare(e.Contests, api.Contest{Name: "spare"}), spare(e.Styles, api.Style{Name: "spare"})
	for i := range e.Contests {
		e.Contests[i].Candidates = spare(e.Contests[i].Candidates, "spare")
	}
	for i := range e.Styles {
		e.Styles[i].Precincts, e.Styles[i].Contests = spare(e.Styles[i].Precincts, 9), spare(e.Styles[i].Contests, 9)
	}
	return e
}

func wholeElection(e api.Election) api.Election {
	e.Precincts = whole(e.Precincts)
	e.Risk.Num, e.Risk.Den = whole(e.Risk.Num), whole(e.Risk.Den)
	e.Contests, e.Styles = whole(e.Contests), whole(e.Styles)
	for i := range e.Contests {
		e.Contests[i].Candidates = whole(e.Contests[i].Candidates)
	}
	for i := range e.Styles {
		e.Styles[i].Precincts, e.Styles[i].Contests = whole(e.Styles[i].Precincts), whole(e.Styles[i].Contests)
	}
	return e
}

func roomyVote(v api.Vote) api.Vote {
	v.Ranks = spare(v.Ranks, []int{0})
	for rank := range v.Ranks {
		v.Ranks[rank] = spare(v.Ranks[rank], 1)
	}
	return v
}

func wholeVote(v api.Vote) api.Vote {
	v.Ranks = whole(v.Ranks)
	for rank := range v.Ranks {
		v.Ranks[rank] = whole(v.Ranks[rank])
	}
	return v
}

func TestVotesKeepsArguments(t *testing.T) {
	invalid := town(t)
	invalid.Cell = 0
	for _, e := range []api.Election{town(t), invalid, {}} {
		for _, judged := range [][]int{nil, {1, 0, 2, 1, 1, 0}, {1, 1, 0, 0, 1, 0, 2, 1}, slices.Repeat([]int{1}, 11), {3, 3, 3, 3, 3, 3}} {
			for precinct := -1; precinct <= 4; precinct++ {
				argument, roomy := roomyElection(e), spare(judged, 1)
				before, numbers := wholeElection(argument), whole(roomy)
				Votes(argument, precinct, roomy)
				if !reflect.DeepEqual(wholeElection(argument), before) || !slices.Equal(whole(roomy), numbers) {
					t.Fatalf("a call for precinct %d changes an argument", precinct)
				}
			}
		}
	}
}

func TestPrefsKeepsArguments(t *testing.T) {
	for _, overvote := range overvotes {
		for _, skip := range skips {
			for _, ranks := range [][][]int{nil, {{1}, {}, {1}, {0}, {0, 2}, {2}}, {{2, 2}, {1, 5}, {0}}} {
				c := contest(len(ranks)+1, overvote, skip)
				c.Candidates = spare(c.Candidates, "spare")
				v := roomyVote(api.Vote{Ranks: ranks})
				candidates, before := whole(c.Candidates), wholeVote(v)
				Prefs(c, v)
				if !slices.Equal(whole(c.Candidates), candidates) || !reflect.DeepEqual(wholeVote(v), before) {
					t.Fatalf("a call for %v changes an argument", ranks)
				}
			}
		}
	}
}

// TestSpareCapacity has lists whose spare capacity would change the results.
func TestSpareCapacity(t *testing.T) {
	e := roomyElection(town(t))
	judged := spare([]int{0, 1, 1, 0, 2, 1}, 1)
	checkVotes(t, e, 1, judged, []api.Vote{{Contest: 0, Ranks: [][]int{{}, {0}, {0, 1}}}}, true)
	checkError(t, e, 1, judged[:5], api.ErrLength)
	checkError(t, e, 4, judged, api.ErrRange)
	judged = spare([]int{1, 0, 0, 0, 0, 0}, 2)
	checkVotes(t, e, 1, judged, []api.Vote{{Contest: 0, Ranks: [][]int{{0}, {}, {}}}}, false)

	c := contest(9, api.OvervoteStop, api.SkipClose)
	c.Candidates = spare(c.Candidates, "spare")
	checkPrefs(t, c, roomyVote(api.Vote{Ranks: [][]int{{}, {3}, {2}, {}}}), []int{2})
}

// overwrite changes everything in a list of votes, with its spare capacity.
func overwrite(votes []api.Vote) {
	votes = votes[:cap(votes)]
	for k := range votes {
		ranks := votes[k].Ranks[:cap(votes[k].Ranks)]
		for rank := range ranks {
			list := ranks[rank][:cap(ranks[rank])]
			for n := range list {
				list[n] = 77
			}
		}
	}
}

// cut takes the spare capacity from all lists of a list of votes.
func cut(votes []api.Vote) []api.Vote {
	votes = slices.Clone(votes)
	for k := range votes {
		votes[k].Ranks = slices.Clone(votes[k].Ranks)
		for rank, list := range votes[k].Ranks {
			votes[k].Ranks[rank] = slices.Clone(list)
		}
	}
	return votes
}

// TestVotesShareNothing overwrites one result after the other: no other result changes, and no result of later calls.
func TestVotesShareNothing(t *testing.T) {
	e := town(t)
	var results, want [][]api.Vote
	for range 2 {
		for precinct := range e.Precincts {
			judged := slices.Repeat([]int{1}, targetsOf(e, precinct))
			votes, _, _ := Votes(e, precinct, judged)
			results, want = append(results, votes), append(want, cut(votes))
		}
	}
	for k := range results {
		overwrite(results[k])
		results[k] = want[k]
		if !reflect.DeepEqual(results, want) {
			t.Fatal("two results share memory")
		}
		precinct := k % len(e.Precincts)
		checkVotes(t, e, precinct, slices.Repeat([]int{1}, targetsOf(e, precinct)), want[k], false)
	}
}

// TestListsShareNothing extends each list of a result: no other list of it changes.
func TestListsShareNothing(t *testing.T) {
	e := greatest(t)
	judged := slices.Repeat([]int{1, 0, 1}, targetsOf(e, 0))[:targetsOf(e, 0)]
	votes, _, _ := Votes(e, 0, judged)
	want := cut(votes)
	for k := range votes {
		for rank, list := range votes[k].Ranks {
			_ = append(list, 77, 78)
			for n := range list {
				list[n] = 79
			}
			votes[k].Ranks[rank] = want[k].Ranks[rank]
			if !equalVotes(votes, want) {
				t.Fatal("two lists share memory")
			}
		}
		_ = append(votes[k].Ranks, []int{80})
		if !equalVotes(votes, want) {
			t.Fatal("the ranks of two votes share memory")
		}
	}
}

// TestPrefsShareNothing overwrites rankings: neither the vote nor another ranking changes.
func TestPrefsShareNothing(t *testing.T) {
	c, v := contest(3, api.OvervoteStop, api.SkipStop), api.Vote{Ranks: [][]int{{1}, {0}, {2}}}
	for range 3 {
		first, second := Prefs(c, v), Prefs(c, v)
		first = first[:cap(first)]
		for n := range first {
			first[n] = 77
		}
		if !slices.Equal(second, []int{1, 0, 2}) || !reflect.DeepEqual(v.Ranks, [][]int{{1}, {0}, {2}}) {
			t.Fatal("a ranking shares memory", second, v)
		}
	}
	one := api.Vote{Ranks: [][]int{{2}}}
	Prefs(c, one)[0] = 77
	checkPrefs(t, c, one, []int{2})
}

// TestRepeatedCalls has calls that would be disturbed by what earlier ones left.
func TestRepeatedCalls(t *testing.T) {
	small, large := single(t, 2, 3, 1, 1), town(t)
	for range 3 {
		checkVotes(t, small, 2, []int{1}, []api.Vote{{Ranks: [][]int{{0}}}}, false)
		checkError(t, large, 2, []int{1}, api.ErrLength)
		checkVotes(t, large, 1, []int{0, 1, 0, 0, 0, 2}, []api.Vote{{Ranks: [][]int{{}, {0}, {}}}}, true)
		checkError(t, api.Election{}, 1, []int{2}, api.ErrForm)
		checkError(t, large, 4, []int{2}, api.ErrRange)
		checkError(t, large, 1, []int{0, 1, 0, 2, 0, 3}, api.ErrKind)
		checkVotes(t, large, 1, []int{0, 0, 0, 0, 0, 0}, []api.Vote{{Ranks: make([][]int, 3)}}, false)
		checkPrefs(t, contest(2, api.OvervoteSkip, api.SkipTwo), api.Vote{Ranks: [][]int{{1}, {0, 1}}}, []int{1})
		checkPrefs(t, contest(2, api.OvervoteSkip, api.SkipTwo), api.Vote{Ranks: [][]int{{}, {1}}}, []int{1})
	}
}

// TestLongArguments has lists that no sheet and no election has.
func TestLongArguments(t *testing.T) {
	e := town(t)
	long := make([]int, 10_000_000)
	checkError(t, e, 1, long, api.ErrLength)
	checkError(t, e, 4, long, api.ErrRange)
	e.Precincts = names(100_000)
	e.Styles[0].Precincts = slices.Repeat([]int{1}, 100_000)
	e.Contests[0].Ranks = math.MaxInt
	checkError(t, e, 1, long, api.ErrForm)
	checkError(t, e, 1, make([]int, 6), api.ErrForm)
}
