package layout

import (
	"math/rand"
	"reflect"
	"slices"
	"strings"
	"testing"

	"election/api"
	"election/image"
)

// exampleSheet is the sheet of precinct 0 of the chapter's example, on which the targets 0, 4 and 8 are filled.
const exampleSheet = `
..................................
..................................
..................................
...##..##..............##..##.....
...##..##..............##..##.....
..................................
..................................
...##......##.....................
...##......##.....................
..................................
..................................
...##..........##.................
...##..........##.................
..................................
..................................
...##..............##.............
...##..............##.............
..................................
..................................
...##.............................
...##.............................
..................................
..................................
..................................
..................................
..................................`

// town has three contests and two styles, whose contests are not in the order of the election.
func town(t *testing.T) api.Election {
	t.Helper()
	e := single(t, 3, 3, 2, 3)
	second, third := e.Contests[0], e.Contests[0]
	second.Name, second.Candidates, second.Ranks = "d", names(3), 7
	third.Name, third.Candidates, third.Ranks = "e", names(1), 6
	e.Contests = append(e.Contests, second, third)
	e.Styles = []api.Style{
		{Name: "s", Precincts: []int{1}, Contests: []int{0}},
		{Name: "r", Precincts: []int{2, 0}, Contests: []int{2, 1, 0}},
	}
	checkValid(t, e)
	return e
}

// TestExample has the example of the chapter.
func TestExample(t *testing.T) {
	e := single(t, 2, 1, 3, 3)
	want := api.Layout{W: 34, H: 26, Dots: 2, Targets: []api.Target{
		{X: 11, Y: 7}, {Rank: 1, X: 15, Y: 7}, {Rank: 2, X: 19, Y: 7},
		{Candidate: 1, X: 11, Y: 11}, {Candidate: 1, Rank: 1, X: 15, Y: 11}, {Candidate: 1, Rank: 2, X: 19, Y: 11},
		{Candidate: 2, X: 11, Y: 15}, {Candidate: 2, Rank: 1, X: 15, Y: 15}, {Candidate: 2, Rank: 2, X: 19, Y: 15},
	}}
	if l, err := Make(e, 0); err != api.OK || !reflect.DeepEqual(l, want) {
		t.Error("Make", l, err)
	}
	picture := strings.Fields(exampleSheet)
	if i, err := Draw(e, 0, []int{8, 0, 4}); err != api.OK || !reflect.DeepEqual(i, toImage(picture)) {
		t.Error("Draw", i, err)
	}
	for y, row := range picture {
		if y >= 7 { // the targets
			picture[y] = row[:5] + strings.Repeat(".", len(row)-5)
		}
	}
	if i, err := Print(e, 0); err != api.OK || !reflect.DeepEqual(i, toImage(picture)) {
		t.Error("Print", i, err)
	}
}

// TestStyles has a style of several contests, which has nine columns.
func TestStyles(t *testing.T) {
	e := town(t)
	for precinct, want := range []plan{{
		"##...##..",
		"#.oooooo.", "#........",
		"#.ooooooo", "#.ooooooo", "#.ooooooo", "#........",
		"#.ooo....", "#.ooo....", "#........",
	}, {
		"##..#.#",
		"#.ooo..", "#.ooo..", "#......",
	}, {
		"##..##...",
		"#.oooooo.", "#........",
		"#.ooooooo", "#.ooooooo", "#.ooooooo", "#........",
		"#.ooo....", "#.ooo....", "#........",
	}} {
		if got := makePlan(e, precinct); !slices.Equal(got, want) {
			t.Errorf("the plan of precinct %d is %v, want %v", precinct, got, want)
		}
		checkSheet(t, e, precinct, []int{1, 2})
	}
	l, err := Make(e, 2)
	if err != api.OK || l.Precinct != 2 || l.Style != 1 || l.W != 60 || l.H != 66 || l.Dots != 3 || len(l.Targets) != 33 {
		t.Fatal("Make", l, err)
	}
	for i, want := range map[int]api.Target{
		0:  {Contest: 2, X: 15, Y: 9},
		5:  {Contest: 2, Rank: 5, X: 45, Y: 9},
		6:  {Contest: 1, X: 15, Y: 21},
		26: {Contest: 1, Candidate: 2, Rank: 6, X: 51, Y: 33},
		27: {X: 15, Y: 45},
		32: {Candidate: 1, Rank: 2, X: 27, Y: 51},
	} {
		if l.Targets[i] != want {
			t.Errorf("target %d is %v, want %v", i, l.Targets[i], want)
		}
	}
}

// TestCode has the codes of all precincts that there can be.
func TestCode(t *testing.T) {
	e := single(t, 2, 12, 1, 1)
	for precinct, want := range []string{"...##", "..#.#", "..##.", ".#..#", ".#.#.", ".##..", ".####", "#...#", "#..#.", "#.#..", "#.###", "##..."} {
		sheet, err := Print(e, precinct)
		if err != api.OK {
			t.Fatal("Print", precinct, err)
		}
		for k, cell := range want {
			filled := map[rune]int{'#': 4, '.': 0}[cell]
			if got := image.Count(sheet, 11+4*k, 3, 2, 2); got != filled {
				t.Errorf("%d pixels of cell %d of the code of precinct %d are filled", got, k, precinct)
			}
		}
		checkSheet(t, e, precinct, nil)
	}
}

// TestSizes has all sizes of a contest.
func TestSizes(t *testing.T) {
	for dots := 2; dots <= 7; dots++ {
		for candidates := 1; candidates <= 7; candidates++ {
			for ranks := 1; ranks <= 7; ranks++ {
				e := single(t, dots, 1, candidates, ranks)
				checkSheet(t, e, 0, []int{candidates*ranks - 1})
				l, _ := Make(e, 0)
				columns := 7
				if ranks > 5 {
					columns = 2 + ranks
				}
				if l.W != 6+2*dots*columns || l.H != 6+2*dots*(candidates+2) {
					t.Errorf("with %d dots, %d candidates and %d ranks, a sheet has the size %d x %d", dots, candidates, ranks, l.W, l.H)
				}
			}
		}
	}
}

// TestGreatestSheet has all limits at once.
func TestGreatestSheet(t *testing.T) {
	e := single(t, 7, 12, 7, 7)
	for _, name := range []string{"d", "e", "f"} {
		c := e.Contests[0]
		c.Name = name
		e.Contests = append(e.Contests, c)
	}
	e.Styles[0].Contests = []int{3, 1, 0, 2}
	checkValid(t, e)
	for precinct := range 12 {
		checkSheet(t, e, precinct, rand.New(rand.NewSource(1)).Perm(196))
	}
	if l, _ := Make(e, 11); l.W != 132 || l.H != 468 || len(l.Targets) != 196 || l.Targets[195] != (api.Target{Contest: 2, Candidate: 6, Rank: 6, X: 115, Y: 437}) {
		t.Error("Make", l)
	}
}

// TestRandomElections fills random targets, with repetitions, on each sheet of random elections.
func TestRandomElections(t *testing.T) {
	r := rand.New(rand.NewSource(10))
	for range 300 {
		e := randomElection(t, r)
		for precinct := range e.Precincts {
			count := len(wantLayout(e, precinct).Targets)
			var filled []int
			for range r.Intn(count + 3) {
				filled = append(filled, r.Intn(count))
			}
			checkSheet(t, e, precinct, filled)
		}
	}
}

// TestEachTarget fills one target after the other.
func TestEachTarget(t *testing.T) {
	e := town(t)
	for precinct := range e.Precincts {
		for i := range wantLayout(e, precinct).Targets {
			checkSheet(t, e, precinct, []int{i})
		}
	}
}

// TestOrderOfIndices has the same indices in all orders, and repeated.
func TestOrderOfIndices(t *testing.T) {
	e := town(t)
	want, _ := Draw(e, 0, []int{0, 7, 32})
	for _, filled := range [][]int{{0, 32, 7}, {7, 0, 32}, {7, 32, 0}, {32, 0, 7}, {32, 7, 0}, {0, 0, 7, 32}, {32, 7, 32, 0, 0, 7, 32}, {7, 7, 7, 7, 0, 32}} {
		if got, err := Draw(e, 0, filled); err != api.OK || !reflect.DeepEqual(got, want) {
			t.Errorf("Draw with %v differs, %d", filled, err)
		}
	}
	for _, filled := range [][]int{nil, {}} {
		checkSheet(t, e, 0, filled)
	}
}

func TestNoSuchPrecinct(t *testing.T) {
	for _, e := range []api.Election{town(t), single(t, 7, 1, 7, 7), single(t, 2, 12, 1, 1)} {
		count := len(e.Precincts)
		for _, precinct := range append(slices.Clone(extremes), -2, -1, count, count+1, 13, 15, 16, 255, 256) {
			for _, filled := range [][]int{nil, {0}, {-1}, {1000}} {
				checkErrors(t, e, precinct, filled, api.ErrRange)
			}
		}
	}
}

func TestNoSuchTarget(t *testing.T) {
	e := town(t)
	for precinct, count := range []int{33, 6, 33} {
		for _, i := range append(slices.Clone(extremes), -2, -1, count, count+1, 1000) {
			for _, filled := range [][]int{{i}, {0, i}, {i, 0}, {i, i}, {0, count - 1, i, 1}} {
				checkDrawError(t, e, precinct, filled, api.ErrRange)
			}
		}
		checkSheet(t, e, precinct, []int{0, count - 1})
	}
}

// TestInvalidElections has an election that is not valid together with everything else that can be wrong.
func TestInvalidElections(t *testing.T) {
	checkErrors(t, api.Election{}, 0, nil, api.ErrForm)
	for i, change := range []func(e *api.Election){
		func(e *api.Election) { e.Dots = 1 },
		func(e *api.Election) { e.Dots = 8 },
		func(e *api.Election) { e.Dots = 1 << 62 },
		func(e *api.Election) { e.Marked = 0 },
		func(e *api.Election) { e.Title = "\n" },
		func(e *api.Election) { e.Precincts = names(13) },
		func(e *api.Election) { e.Precincts[0] = e.Precincts[1] },
		func(e *api.Election) { e.Contests[1].Ranks = 0 },
		func(e *api.Election) { e.Contests[1].Ranks = 1 << 62 },
		func(e *api.Election) { e.Contests[1].Ranks = -1 },
		func(e *api.Election) { e.Contests[1].Candidates = nil },
		func(e *api.Election) { e.Contests[1].Candidates = names(8) },
		func(e *api.Election) { e.Contests = nil },
		func(e *api.Election) { e.Styles = nil },
		func(e *api.Election) { e.Styles[1].Contests = nil },
		func(e *api.Election) { e.Styles[1].Contests[0] = 3 },
		func(e *api.Election) { e.Styles[1].Contests[0] = -1 },
		func(e *api.Election) { e.Styles[1].Contests[0] = 1 },
		func(e *api.Election) { e.Styles[1].Precincts[0] = 1 },
		func(e *api.Election) { e.Styles[1].Precincts = append(e.Styles[1].Precincts, 3) },
		func(e *api.Election) { e.Styles[1].Precincts = append(e.Styles[1].Precincts, -1) },
		func(e *api.Election) { e.Styles[1].Precincts = e.Styles[1].Precincts[:1] },
		func(e *api.Election) { e.Scanners = 7 },
		func(e *api.Election) { e.Risk.Den = nil },
		func(e *api.Election) { e.Cell = 0 },
		func(e *api.Election) { e.Seed = "\x7f" },
	} {
		e := town(t)
		change(&e)
		for _, precinct := range append(slices.Clone(extremes), -1, 0, 1, 2, 3) {
			for _, filled := range [][]int{nil, {0}, {-1}, {1000}} {
				checkErrors(t, e, precinct, filled, api.ErrForm)
			}
		}
		if t.Failed() {
			t.Fatalf("change %d", i)
		}
	}
}
