package ranking

import (
	"fmt"
	"math"
	"math/rand"
	"slices"
	"testing"

	"election/api"
)

var (
	overvotes = []int{api.OvervoteStop, api.OvervoteSkip}
	skips     = []int{api.SkipClose, api.SkipStop, api.SkipTwo}
	noRules   = append(slices.Clone(extremes), -1, 0, 4, 5, 256)
)

// TestExample is the example of the chapter, and one of the document.
func TestExample(t *testing.T) {
	v := api.Vote{Ranks: [][]int{{1}, {}, {1}, {0}, {0, 2}, {2}}}
	checkPrefs(t, contest(6, api.OvervoteStop, api.SkipClose), v, []int{1, 0})
	checkPrefs(t, contest(6, api.OvervoteSkip, api.SkipClose), v, []int{1, 0, 2})
	checkPrefs(t, contest(6, api.OvervoteStop, api.SkipStop), v, []int{1})
	checkPrefs(t, contest(6, api.OvervoteSkip, api.SkipStop), v, []int{1})
	checkPrefs(t, contest(6, api.OvervoteSkip, api.SkipTwo), v, []int{1, 0, 2})
	checkPrefs(t, contest(2, api.OvervoteSkip, api.SkipClose), api.Vote{Ranks: [][]int{{0, 1}, {2}}}, []int{2})
}

// TestRules has the cases in which an overvoted rank counts as blank, and in which a rank is not blank although it adds nothing.
func TestRules(t *testing.T) {
	for k, x := range []struct {
		overvote, skip int
		ranks          [][]int
		want           []int
	}{
		{api.OvervoteSkip, api.SkipStop, [][]int{{0, 1}, {2}}, nil},
		{api.OvervoteSkip, api.SkipStop, [][]int{{1}, {0, 1}, {2}}, []int{1}},
		{api.OvervoteSkip, api.SkipTwo, [][]int{{0, 1}, {2}}, []int{2}},
		{api.OvervoteSkip, api.SkipTwo, [][]int{{0, 1}, {}, {2}}, nil},
		{api.OvervoteSkip, api.SkipTwo, [][]int{{}, {0, 1}, {2}}, nil},
		{api.OvervoteSkip, api.SkipTwo, [][]int{{0, 1}, {0, 2}, {2}}, nil},
		{api.OvervoteSkip, api.SkipTwo, [][]int{{}, {1}, {0, 2}, {2}, {}, {0}}, []int{1, 2, 0}},
		{api.OvervoteSkip, api.SkipTwo, [][]int{{1}, {}, {1}, {}, {2}}, []int{1, 2}},
		{api.OvervoteSkip, api.SkipTwo, [][]int{{1}, {}, {}, {2}}, []int{1}},
		{api.OvervoteStop, api.SkipTwo, [][]int{{}, {1}, {}, {2}}, []int{1, 2}},
		{api.OvervoteStop, api.SkipTwo, [][]int{{}, {}, {1}}, nil},
		{api.OvervoteStop, api.SkipStop, [][]int{{}, {1}}, nil},
		{api.OvervoteStop, api.SkipStop, [][]int{{1}, {1}, {2}, {1}, {0}}, []int{1, 2, 0}},
		{api.OvervoteStop, api.SkipClose, [][]int{{}, {}, {}, {1}, {}, {}, {0}}, []int{1, 0}},
		{api.OvervoteStop, api.SkipClose, [][]int{{0, 1}, {2}}, nil},
		{api.OvervoteStop, api.SkipClose, [][]int{{2}, {0, 1, 2}, {1}}, []int{2}},
		{api.OvervoteSkip, api.SkipClose, [][]int{{0, 1}, {0, 1}, {0, 1, 2}, {1}, {0}, {2, 1}, {2}}, []int{1, 0, 2}},
	} {
		if got := Prefs(contest(7, x.overvote, x.skip), api.Vote{Ranks: x.ranks}); !slices.Equal(got, x.want) {
			t.Errorf("ranking %d is %v, want %v", k, got, x.want)
		}
	}
}

// subset returns the candidates whose bits a number has.
func subset(bits int) []int {
	var list []int
	for candidate := range 3 {
		if bits>>candidate&1 == 1 {
			list = append(list, candidate)
		}
	}
	return list
}

// TestAllVotes has all votes with up to four ranks, with all rules and some that there are not.
func TestAllVotes(t *testing.T) {
	for ranks := range 5 {
		for number := range 1 << (3 * ranks) {
			v := api.Vote{}
			for rank := range ranks {
				v.Ranks = append(v.Ranks, subset(number>>(3*rank)&7))
			}
			for _, overvote := range append([]int{0, 3}, overvotes...) {
				for _, skip := range append([]int{0, 4}, skips...) {
					checkVote(t, contest(ranks, overvote, skip), v)
				}
			}
		}
	}
}

// TestAllPatterns has all sequences of seven ranks that are blank, overvoted or marked.
func TestAllPatterns(t *testing.T) {
	kinds := [][]int{{}, {0, 1}, {0}, {1}}
	for number := range 1 << 14 {
		v := api.Vote{}
		for rank := range 7 {
			v.Ranks = append(v.Ranks, kinds[number>>(2*rank)&3])
		}
		for _, overvote := range overvotes {
			for _, skip := range skips {
				checkVote(t, contest(7, overvote, skip), v)
			}
		}
	}
}

// TestRandomVotes has candidates in any order, repeated ones, and ones that there are not; and more or fewer lists than ranks.
func TestRandomVotes(t *testing.T) {
	r := rand.New(rand.NewSource(2))
	for range 50_000 {
		c := contest(r.Intn(9)-1, 1+r.Intn(2), 1+r.Intn(3))
		c.Candidates = names(r.Intn(8))
		v := api.Vote{Contest: r.Intn(5) - 1}
		for range r.Intn(9) {
			var list []int
			for range r.Intn(4) * r.Intn(2) {
				list = append(list, r.Intn(10)-1)
			}
			v.Ranks = append(v.Ranks, append(list, r.Intn(9)-1))
		}
		checkVote(t, c, v)
	}
}

// TestOtherRules: without a rule, an overvoted or a blank rank ends the ranking.
func TestOtherRules(t *testing.T) {
	for _, number := range append(slices.Clone(noRules), 3) {
		for _, skip := range skips {
			c := contest(4, number, skip)
			checkPrefs(t, c, api.Vote{Ranks: [][]int{{1}, {0, 1}, {2}}}, []int{1})
			checkPrefs(t, c, api.Vote{Ranks: [][]int{{1}, {2}, {0}}}, []int{1, 2, 0})
			checkPrefs(t, c, api.Vote{Ranks: [][]int{{0, 2}, {2}}}, nil)
		}
		checkPrefs(t, contest(4, number, api.SkipClose), api.Vote{Ranks: [][]int{{1}, {}, {}, {2}}}, []int{1, 2})
	}
	for _, number := range noRules {
		for _, overvote := range overvotes {
			c := contest(4, overvote, number)
			checkPrefs(t, c, api.Vote{Ranks: [][]int{{1}, {}, {2}}}, []int{1})
			checkPrefs(t, c, api.Vote{Ranks: [][]int{{1}, {2}, {0}}}, []int{1, 2, 0})
			checkPrefs(t, c, api.Vote{Ranks: [][]int{{}, {2}}}, nil)
			checkPrefs(t, c, api.Vote{Ranks: [][]int{{1}, {0, 2}, {2}}}, []int{1})
		}
	}
}

// TestNoCandidates: marks for candidates that there are not do not count.
func TestNoCandidates(t *testing.T) {
	for _, number := range append(slices.Clone(extremes), -2, -1, 3, 4, 7) {
		for _, overvote := range overvotes {
			c := contest(3, overvote, api.SkipClose)
			checkPrefs(t, c, api.Vote{Ranks: [][]int{{number}, {2}}}, []int{2})
			checkPrefs(t, c, api.Vote{Ranks: [][]int{{number, 1}, {2, number}}}, []int{1, 2})
			checkPrefs(t, c, api.Vote{Ranks: [][]int{{number, 1, -9, 1, 12, number}}}, []int{1})
			c.Skip = api.SkipTwo
			checkPrefs(t, c, api.Vote{Ranks: [][]int{{number}, {number}, {2}}}, nil)
			c.Skip = api.SkipStop
			checkPrefs(t, c, api.Vote{Ranks: [][]int{{number}, {2}}}, nil)
			c.Candidates = nil
			checkPrefs(t, c, api.Vote{Ranks: [][]int{{number, 0}, {0}, {0, 1, 2}}}, nil)
		}
	}
}

// TestRepeatedMarks: a candidate that a list has twice is one mark.
func TestRepeatedMarks(t *testing.T) {
	c := contest(4, api.OvervoteStop, api.SkipStop)
	checkPrefs(t, c, api.Vote{Ranks: [][]int{{2, 2}, {0, 0, 0}, {2}, {1}}}, []int{2, 0, 1})
	checkPrefs(t, c, api.Vote{Ranks: [][]int{{2}, {0, 0, 1}, {1}}}, []int{2})
	checkPrefs(t, c, api.Vote{Ranks: [][]int{{2}, {1, 0, 1}, {1}}}, []int{2})
	c.Overvote, c.Skip = api.OvervoteSkip, api.SkipClose
	checkPrefs(t, c, api.Vote{Ranks: [][]int{{2, 1}, {1, 0, 1}, {0, 0}, {2, 2, 2}}}, []int{0, 2})
}

// TestNumberOfRanks has more and fewer ranks than lists.
func TestNumberOfRanks(t *testing.T) {
	v := api.Vote{Ranks: [][]int{{2}, {0}, {}, {1}}}
	for ranks, want := range [][]int{{}, {2}, {2, 0}, {2, 0}, {2, 0, 1}, {2, 0, 1}, {2, 0, 1}} {
		checkPrefs(t, contest(ranks, api.OvervoteStop, api.SkipTwo), v, want)
	}
	for _, ranks := range append(slices.Clone(extremes), -7, -1) {
		want := []int{2, 0, 1}
		if ranks < 0 {
			want = nil
		}
		for _, overvote := range append(slices.Clone(noRules), overvotes...) {
			checkPrefs(t, contest(ranks, overvote, api.SkipClose), v, want)
			checkPrefs(t, contest(ranks, overvote, api.SkipClose), api.Vote{}, nil)
		}
	}
}

// TestOtherFields: the other fields of the contest do not matter, and neither does the contest of the vote.
func TestOtherFields(t *testing.T) {
	v := api.Vote{Ranks: [][]int{{2}, {0, 1}, {}, {1}, {2}}}
	for _, number := range append(slices.Clone(noRules), 1, 2, 3) {
		c := contest(5, api.OvervoteSkip, api.SkipClose)
		c.Name, c.Candidates = "", []string{"", "x", "x"}
		c.Method, c.Seats, c.Digits, c.Ties = number, number, number, number
		v.Contest = number
		checkPrefs(t, c, v, []int{2, 1})
	}
}

// TestManyCandidates has more ranks and candidates than an election. The time that a ranking takes must not grow with their product.
func TestManyCandidates(t *testing.T) {
	const many = 300_000
	c := contest(many, api.OvervoteStop, api.SkipStop)
	c.Candidates = make([]string, many)
	v := api.Vote{Ranks: make([][]int, 2*many)}
	var want []int
	for rank := range v.Ranks {
		v.Ranks[rank] = []int{(rank + 7) % many}
	}
	for rank := range many {
		want = append(want, (rank+7)%many)
	}
	checkPrefs(t, c, v, want)
	c.Ranks = 2 * many
	checkPrefs(t, c, v, want)
	c.Ranks = many - 8
	checkPrefs(t, c, v, want[:many-8])
	v.Ranks[1000] = nil
	checkPrefs(t, c, v, want[:1000])
}

// TestLongLists has lists with many marks.
func TestLongLists(t *testing.T) {
	long := append(slices.Repeat([]int{1, -1, 3, math.MaxInt, 1}, 1_000_000), 1)
	for _, overvote := range overvotes {
		c := contest(9, overvote, api.SkipClose)
		checkPrefs(t, c, api.Vote{Ranks: [][]int{{0}, long, {2}}}, []int{0, 1, 2})
	}
	c := contest(9, api.OvervoteSkip, api.SkipClose)
	checkPrefs(t, c, api.Vote{Ranks: [][]int{{0}, append(long, 2), {2}}}, []int{0, 2})
	c.Overvote = api.OvervoteStop
	checkPrefs(t, c, api.Vote{Ranks: [][]int{{0}, append(long, 0), {2}}}, []int{0})
}

func ExamplePrefs() {
	c := api.Contest{Candidates: []string{"ann", "bob", "cem"}, Ranks: 3, Overvote: api.OvervoteSkip, Skip: api.SkipClose}
	fmt.Println(Prefs(c, api.Vote{Ranks: [][]int{{0, 1}, {2}, {0}}}))
	// Output: [2 0]
}
