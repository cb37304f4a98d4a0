package layout

import (
	"math"
	"reflect"
	"slices"
	"testing"

	"election/api"
)

// spare returns a copy of a list with spare capacity that is not zero.
func spare[T any](list []T, filler T) []T {
	return append(append([]T{}, list...), filler, filler)[:len(list)]
}

// whole returns a copy of a list in which its spare capacity belongs to it.
func whole[T any](list []T) []T { return append([]T{}, list[:cap(list)]...) }

func roomyElection(e api.Election) api.Election {
	e.Precincts = spare(e.Precincts, "spare")
	e.Risk.Num, e.Risk.Den = spare(e.Risk.Num, 9), spare(e.Risk.Den, 9)
	e.Contests, e.Styles = spare(e.Contests, api.Contest{Name: "spare"}), spare(e.Styles, api.Style{Name: "spare"})
	for i := range e.Contests {
		e.Contests[i].Candidates = spare(e.Contests[i].Candidates, "spare")
	}
	for i := range e.Styles {
		e.Styles[i].Precincts, e.Styles[i].Contests = spare(e.Styles[i].Precincts, 9), spare(e.Styles[i].Contests, 9)
	}
	return e
}

func wholeElection(e api.Election) api.Election {
	e.Precincts = whole(e.Precincts)
	e.Risk.Num, e.Risk.Den = whole(e.Risk.Num), whole(e.Risk.Den)
	e.Contests, e.Styles = whole(e.Contests), whole(e.Styles)
	for i := range e.Contests {
		e.Contests[i].Candidates = whole(e.Contests[i].Candidates)
	}
	for i := range e.Styles {
		e.Styles[i].Precincts, e.Styles[i].Contests = whole(e.Styles[i].Precincts), whole(e.Styles[i].Contests)
	}
	return e
}

func TestArgumentsStay(t *testing.T) {
	invalid := town(t)
	invalid.Dots = 8
	for _, e := range []api.Election{town(t), invalid, {}} {
		for precinct := -1; precinct <= 3; precinct++ {
			for _, list := range [][]int{{5, 0, 5, 1}, {2, 99}, {-1, 0}, {}} {
				argument, filled := roomyElection(e), spare(list, 3)
				before, indices := wholeElection(argument), whole(filled)
				Make(argument, precinct)
				Print(argument, precinct)
				Draw(argument, precinct, filled)
				if !reflect.DeepEqual(wholeElection(argument), before) || !slices.Equal(whole(filled), indices) {
					t.Fatalf("a call for precinct %d with %v changes an argument", precinct, list)
				}
			}
		}
	}
}

// TestSpareCapacity has lists whose spare capacity would change the results.
func TestSpareCapacity(t *testing.T) {
	e := roomyElection(town(t))
	for precinct := range e.Precincts {
		checkSheet(t, e, precinct, spare([]int{0, 4}, 5))
		checkSheet(t, e, precinct, spare([]int{0, 4}, 99))
	}
}

// cloneAll returns copies of results.
func cloneAll(layouts []api.Layout, images []api.Image) ([]api.Layout, []api.Image) {
	layouts, images = slices.Clone(layouts), slices.Clone(images)
	for i := range layouts {
		layouts[i].Targets = slices.Clone(layouts[i].Targets)
	}
	for i := range images {
		images[i].Bits = slices.Clone(images[i].Bits)
	}
	return layouts, images
}

// results returns all results for an election, as a list of layouts and one of images.
func results(e api.Election, filled []int) ([]api.Layout, []api.Image) {
	var layouts []api.Layout
	var images []api.Image
	for range 2 {
		for precinct := range e.Precincts {
			l, _ := Make(e, precinct)
			empty, _ := Print(e, precinct)
			none, _ := Draw(e, precinct, nil)
			some, _ := Draw(e, precinct, filled)
			layouts, images = append(layouts, l), append(images, empty, none, some)
		}
	}
	return layouts, images
}

// TestResultsShareNothing overwrites one result after the other, with its spare capacity: no other result changes, no argument, and no result of later calls.
func TestResultsShareNothing(t *testing.T) {
	e, filled := town(t), []int{3, 1}
	wantLayouts, wantImages := cloneAll(results(e, filled))
	layouts, images := results(e, filled)
	for i := range layouts {
		list := layouts[i].Targets
		for k := range list[:cap(list)] {
			list[:cap(list)][k] = api.Target{Contest: 77}
		}
		layouts[i] = wantLayouts[i]
		if !reflect.DeepEqual(layouts, wantLayouts) {
			t.Fatal("two layouts share memory")
		}
	}
	for i := range images {
		list := images[i].Bits
		for k := range list[:cap(list)] {
			list[:cap(list)][k] = 77
		}
		images[i] = wantImages[i]
		if !reflect.DeepEqual(images, wantImages) {
			t.Fatal("two images share memory")
		}
	}
	layouts, images = results(e, filled)
	if !reflect.DeepEqual(layouts, wantLayouts) || !reflect.DeepEqual(images, wantImages) || !reflect.DeepEqual(e, town(t)) || !slices.Equal(filled, []int{3, 1}) {
		t.Error("a result has the memory of an argument, or of something that is kept")
	}
}

// TestLongArguments has more indices than there are targets, and an election with lists that no election has.
func TestLongArguments(t *testing.T) {
	e := town(t)
	long := slices.Repeat([]int{2, 0, 32}, 1000000)
	want := toImage(makePlan(e, 0).draw(3, []int{0, 2, 32}))
	if got, err := Draw(e, 0, long); err != api.OK || !reflect.DeepEqual(got, want) {
		t.Errorf("Draw with many indices is %s, %d", preview(got), err)
	}
	for _, i := range []int{-1, 33, math.MinInt} {
		if got, err := Draw(e, 0, append(long, i)); err != api.ErrRange || !reflect.DeepEqual(got, api.Image{}) {
			t.Errorf("Draw with many indices and %d is %s, %d", i, preview(got), err)
		}
	}
	e.Styles[0].Precincts = slices.Repeat([]int{1}, 100000)
	e.Styles[1].Contests = slices.Repeat([]int{0, math.MaxInt}, 100000)
	e.Contests[0].Candidates = slices.Repeat([]string{"a"}, 100000)
	for precinct := range 3 {
		checkErrors(t, e, precinct, []int{0}, api.ErrForm)
	}
}
