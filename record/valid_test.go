package record

import (
	"math"
	"math/rand"
	"slices"
	"testing"

	"election/api"
)

// ballot returns a record of precinct 0 of the town, whose votes are in contests 1 and 0.
func ballot() api.Record {
	return api.Record{Votes: []api.Vote{
		{Contest: 1, Ranks: [][]int{{0}, {}, nil, {0}, {}}},
		{Contest: 0, Ranks: [][]int{{1}, {}, {0, 1}}},
	}}
}

func TestVoid(t *testing.T) {
	if r := Void(); r.Precinct != -1 || len(r.Votes) != 0 || r.Doubt {
		t.Error("the void record is", r)
	}
	for _, e := range []api.Election{town(t), single(t, 2, 1, 1, 1), greatest(t)} {
		checkRecord(t, e, Void())
		checkRecord(t, e, api.Record{Precinct: -1, Votes: []api.Vote{}})
		checkNoRecord(t, e, api.Record{Precinct: -1, Doubt: true})
		checkNoRecord(t, e, api.Record{Precinct: -1, Votes: make([]api.Vote, 1)})
		checkNoRecord(t, e, api.Record{Precinct: -1, Votes: recordOf(e, 0, make([]int, targetsOf(e, 0))).Votes})
	}
}

// TestBlankRecords has records without marks, whose lists are nil or empty.
func TestBlankRecords(t *testing.T) {
	e := town(t)
	for precinct := range e.Precincts {
		r := recordOf(e, precinct, make([]int, targetsOf(e, precinct)))
		checkRecord(t, e, r)
		r.Doubt = true
		checkRecord(t, e, r)
		for k := range r.Votes {
			for rank := range r.Votes[k].Ranks {
				r.Votes[k].Ranks[rank] = []int{}
			}
		}
		checkRecord(t, e, r)
		r.Votes[0].Ranks = nil
		checkNoRecord(t, e, r)
		r.Votes = nil
		checkNoRecord(t, e, r)
	}
}

// TestPrecincts has the votes of each precinct as those of another one, of the same style or not.
func TestPrecincts(t *testing.T) {
	e := town(t)
	for from := range e.Precincts {
		r := recordOf(e, from, make([]int, targetsOf(e, from)))
		for _, precinct := range append(slices.Clone(extremes), -3, -2, -1, 0, 1, 2, 3, 4, 5, 11, 12, 255, 256, 257) {
			r.Precinct = precinct
			if same := precinct == from || precinct+from == 3 && precinct*from == 0; same != checkValidity(t, e, r) {
				t.Error("the reference is wrong", from, precinct)
			}
		}
	}
}

// TestFaults has records with one fault.
func TestFaults(t *testing.T) {
	e := town(t)
	checkRecord(t, e, ballot())
	for k, change := range []func(*api.Record){
		func(r *api.Record) { r.Votes = r.Votes[:1] },
		func(r *api.Record) { r.Votes = r.Votes[1:] },
		func(r *api.Record) { r.Votes = append(r.Votes, r.Votes[1]) },
		func(r *api.Record) { r.Votes = append(r.Votes, api.Vote{Contest: 2, Ranks: make([][]int, 2)}) },
		func(r *api.Record) { r.Votes[0], r.Votes[1] = r.Votes[1], r.Votes[0] },
		func(r *api.Record) { r.Votes[1] = r.Votes[0] },
		func(r *api.Record) { r.Votes[0].Contest = 0 },
		func(r *api.Record) { r.Votes[1].Contest = 1 },
		func(r *api.Record) { r.Votes[0].Contest, r.Votes[1].Contest = 0, 1 },
		func(r *api.Record) { r.Votes[1].Contest = -1 },
		func(r *api.Record) { r.Votes[1].Contest = 3 },
		func(r *api.Record) { r.Votes[0].Ranks = r.Votes[0].Ranks[:4] },
		func(r *api.Record) { r.Votes[1].Ranks = r.Votes[1].Ranks[1:] },
		func(r *api.Record) { r.Votes[1].Ranks = append(r.Votes[1].Ranks, nil) },
		func(r *api.Record) { r.Votes[0].Ranks, r.Votes[1].Ranks = r.Votes[1].Ranks, r.Votes[0].Ranks },
		func(r *api.Record) { r.Votes[0].Ranks[0] = []int{1} },
		func(r *api.Record) { r.Votes[0].Ranks[4] = []int{0, 1} },
		func(r *api.Record) { r.Votes[1].Ranks[0] = []int{2} },
		func(r *api.Record) { r.Votes[1].Ranks[1] = []int{-1} },
		func(r *api.Record) { r.Votes[1].Ranks[2] = []int{1, 0} },
		func(r *api.Record) { r.Votes[1].Ranks[2] = []int{1, 1} },
		func(r *api.Record) { r.Votes[1].Ranks[2] = []int{0, 0} },
		func(r *api.Record) { r.Votes[1].Ranks[2] = []int{0, 1, 2} },
		func(r *api.Record) { r.Votes[1].Ranks[2] = []int{0, 1, 1} },
		func(r *api.Record) { r.Votes[1].Ranks[2] = []int{0, 1, 0} },
		func(r *api.Record) { r.Votes[1].Ranks[2] = []int{-1, 0, 1} },
	} {
		r := ballot()
		change(&r)
		if validOf(e, r) {
			t.Error("the reference is wrong", k)
		}
		checkNoRecord(t, e, r)
	}
}

// TestExtremeNumbers puts numbers that do not exist at all places.
func TestExtremeNumbers(t *testing.T) {
	for _, e := range []api.Election{town(t), greatest(t)} {
		for _, number := range append(slices.Clone(extremes), -2, -1, 7, 8, 9, 63, 64, 65, 255, 256) {
			judged := slices.Repeat([]int{api.MarkFilled}, targetsOf(e, 0))
			for k, v := range recordOf(e, 0, judged).Votes {
				r := recordOf(e, 0, judged)
				r.Votes[k].Contest = number
				checkNoRecord(t, e, r)
				for rank, list := range v.Ranks {
					for n := range list {
						r := recordOf(e, 0, judged)
						r.Votes[k].Ranks[rank][n] = number
						checkNoRecord(t, e, r)
					}
					r := recordOf(e, 0, judged)
					r.Votes[k].Ranks[rank] = []int{number}
					checkNoRecord(t, e, r)
				}
			}
		}
	}
}

// allLists returns all lists with numbers from -1 to the limit, up to this length.
func allLists(limit, length int) [][]int {
	lists := [][]int{nil}
	for from := 0; length > 0; length-- {
		to := len(lists)
		for _, list := range lists[from:to] {
			for number := -1; number <= limit; number++ {
				lists = append(lists, append(slices.Clone(list), number))
			}
		}
		from = to
	}
	return lists
}

// TestAllLists has all short lists of candidates, at each rank.
func TestAllLists(t *testing.T) {
	for candidates := 1; candidates <= 3; candidates++ {
		e := single(t, 2, 1, candidates, 3)
		valid := 0
		for rank := range 3 {
			for _, list := range allLists(candidates, 4) {
				r := api.Record{Votes: []api.Vote{{Ranks: make([][]int, 3)}}}
				r.Votes[0].Ranks[rank] = list
				if checkValidity(t, e, r) {
					valid++
				}
			}
		}
		if valid != 3<<candidates {
			t.Errorf("with %d candidates, %d records are valid", candidates, valid)
		}
	}
}

// TestSizesOfContests has contests of all sizes, filled and blank.
func TestSizesOfContests(t *testing.T) {
	for candidates := 1; candidates <= api.MaxCandidates; candidates++ {
		for ranks := 1; ranks <= api.MaxRanks; ranks++ {
			e := single(t, 3, 2, candidates, ranks)
			for judgement := range 2 {
				checkRecord(t, e, recordOf(e, 1, slices.Repeat([]int{judgement}, candidates*ranks)))
			}
			checkNoRecord(t, e, recordOf(single(t, 3, 2, candidates, ranks%7+1), 1, make([]int, candidates*(ranks%7+1))))
			if candidates < 7 {
				checkNoRecord(t, e, recordOf(single(t, 3, 2, candidates+1, ranks), 1, slices.Repeat([]int{1}, (candidates+1)*ranks)))
			}
		}
	}
}

// spoil makes a small change, after which a record may still be valid.
func spoil(r *rand.Rand, record api.Record) api.Record {
	votes := record.Votes
	k := r.Intn(len(votes))
	rank := r.Intn(len(votes[k].Ranks))
	list := votes[k].Ranks[rank]
	switch r.Intn(9) {
	case 0:
		record.Precinct = r.Intn(14) - 1
	case 1:
		record.Votes = votes[:k]
	case 2:
		record.Votes = append(votes, votes[k])
	case 3:
		votes[k].Contest = r.Intn(6) - 1
	case 4:
		other := r.Intn(len(votes))
		votes[k], votes[other] = votes[other], votes[k]
	case 5:
		votes[k].Ranks = votes[k].Ranks[:rank]
	case 6:
		votes[k].Ranks = append(votes[k].Ranks, list)
	case 7:
		votes[k].Ranks[rank] = append(list, r.Intn(9)-1)
	case 8:
		r.Shuffle(len(list), func(i, k int) { list[i], list[k] = list[k], list[i] })
	}
	return record
}

func TestRandomRecords(t *testing.T) {
	r := rand.New(rand.NewSource(21))
	valid, spoiled := 0, 0
	for range 120 {
		e := randomElection(t, r)
		for precinct := range e.Precincts {
			checkRecord(t, e, randomRecord(r, e, precinct, 1+r.Intn(5)))
			for range 4 {
				if checkValidity(t, e, spoil(r, randomRecord(r, e, precinct, 1+r.Intn(5)))) {
					valid++
				} else {
					spoiled++
				}
			}
		}
	}
	if valid < 500 || spoiled < 500 {
		t.Errorf("%d records are valid, %d are not", valid, spoiled)
	}
}

// TestInvalidElections: no record is valid for an election that is not, not even the void one, and no image has a record.
func TestInvalidElections(t *testing.T) {
	for _, e := range invalidElections(t) {
		for precinct := range 4 {
			r := recordOf(town(t), precinct, make([]int, targetsOf(town(t), precinct)))
			checkNoRecord(t, e, r)
			checkNoEncoding(t, e, encodingOf(r)...)
		}
		for _, r := range []api.Record{Void(), ballot(), {}, {Precinct: -2, Doubt: true}, {Precinct: math.MaxInt}, {Precinct: 255}} {
			checkNoRecord(t, e, r)
		}
		for _, b := range [][]byte{nil, {}, {0}, {255}, {0, 0}, {255, 0}, encodingOf(ballot())} {
			checkNoEncoding(t, e, b...)
		}
	}
}

// variants returns records that are different, most of which are no records of any election.
func variants() []api.Record {
	list := []api.Record{{}, Void(), {Doubt: true}, {Precinct: -1, Doubt: true}, {Precinct: 1}, {Precinct: math.MaxInt}, {Precinct: math.MinInt}}
	for _, votes := range [][]api.Vote{
		{{}}, {{Contest: 1}}, {{Contest: math.MinInt}}, {{}, {}}, {{Contest: 1}, {}}, {{}, {Contest: 1}}, {{}, {}, {}},
		{{Ranks: [][]int{{}}}}, {{Ranks: [][]int{{}, {}}}}, {{Ranks: [][]int{{0}}}}, {{Ranks: [][]int{{1}}}}, {{Ranks: [][]int{{0, 1}}}}, {{Ranks: [][]int{{1, 0}}}},
		{{Ranks: [][]int{{0}, {}}}}, {{Ranks: [][]int{{}, {0}}}}, {{Ranks: [][]int{{0}, {1}}}}, {{Ranks: [][]int{{0}, {math.MaxInt}}}}, {{Ranks: [][]int{{0, 0}}}},
		{{Ranks: [][]int{{0}}}, {}}, {{}, {Ranks: [][]int{{0}}}}, {{Contest: 1, Ranks: [][]int{{0}}}}, {{Contest: 1}, {Ranks: [][]int{{0}}}},
	} {
		list = append(list, api.Record{Votes: votes}, api.Record{Precinct: -1, Votes: votes}, api.Record{Votes: votes, Doubt: true})
	}
	return list
}

// TestEqual compares each two variants.
func TestEqual(t *testing.T) {
	first, second := variants(), variants()
	for i, a := range first {
		for k, b := range second {
			if Equal(a, b) != (i == k) {
				t.Errorf("Equal of %+v and %+v", a, b)
			}
		}
	}
	a, b := ballot(), ballot()
	if !Equal(a, b) {
		t.Error("Equal of a record and its copy")
	}
	b.Votes[1].Ranks[2][1] = 2
	if Equal(a, b) || Equal(b, a) {
		t.Error("Equal of records whose last numbers differ")
	}
}

// TestEqualToNil: a list without elements is equal to nil.
func TestEqualToNil(t *testing.T) {
	for _, pair := range [][2]api.Record{
		{{}, {Votes: []api.Vote{}}},
		{{Votes: []api.Vote{{}}}, {Votes: []api.Vote{{Ranks: [][]int{}}}}},
		{{Votes: []api.Vote{{Ranks: [][]int{nil, {1}, {}}}}}, {Votes: []api.Vote{{Ranks: [][]int{{}, {1}, nil}}}}},
	} {
		if !Equal(pair[0], pair[1]) || !Equal(pair[1], pair[0]) {
			t.Errorf("%+v is not equal to itself with nil", pair[0])
		}
	}
}
