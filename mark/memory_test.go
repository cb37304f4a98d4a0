package mark

import (
	"math"
	"reflect"
	"slices"
	"testing"

	"election/api"
	"election/layout"
)

// spare returns a copy of a list with spare capacity that is not zero.
func spare[T any](list []T, filler T) []T {
	return append(append([]T{}, list...), filler, filler)[:len(list)]
}

// whole returns a copy of a list in which its spare capacity belongs to it.
func whole[T any](list []T) []T { return append([]T{}, list[:cap(list)]...) }

func roomyElection(e api.Election) api.Election {
	e.Precincts = spare(e.Precincts, "spare")
	e.Risk.Num, e.Risk.Den = spare(e.Risk.Num, 9), spare(e.Risk.Den, 9)
	e.Contests, e.Styles = spare(e.Contests, api.Contest{Name: "spare"}), spare(e.Styles, api.Style{Name: "spare"})
	for i := range e.Contests {
		e.Contests[i].Candidates = spare(e.Contests[i].Candidates, "spare")
	}
	for i := range e.Styles {
		e.Styles[i].Precincts, e.Styles[i].Contests = spare(e.Styles[i].Precincts, 9), spare(e.Styles[i].Contests, 9)
	}
	return e
}

func wholeElection(e api.Election) api.Election {
	e.Precincts = whole(e.Precincts)
	e.Risk.Num, e.Risk.Den = whole(e.Risk.Num), whole(e.Risk.Den)
	e.Contests, e.Styles = whole(e.Contests), whole(e.Styles)
	for i := range e.Contests {
		e.Contests[i].Candidates = whole(e.Contests[i].Candidates)
	}
	for i := range e.Styles {
		e.Styles[i].Precincts, e.Styles[i].Contests = whole(e.Styles[i].Precincts), whole(e.Styles[i].Contests)
	}
	return e
}

func TestArgumentsStay(t *testing.T) {
	invalid := town(t, 3)
	invalid.Cell = 0
	sheet, _ := layout.Draw(town(t, 3), 2, []int{0, 3, 7})
	for _, e := range []api.Election{town(t, 3), invalid, {}} {
		for _, i := range []api.Image{sheet, {}, {W: 9, H: 9, Bits: []byte{1, 2}}} {
			for precinct := -1; precinct <= 4; precinct++ {
				argument := roomyElection(e)
				i.Bits = spare(i.Bits, 0xff)
				before, bits := wholeElection(argument), whole(i.Bits)
				Judge(argument, precinct, i)
				Density(argument, precinct, i, 3)
				if !reflect.DeepEqual(wholeElection(argument), before) || !slices.Equal(whole(i.Bits), bits) {
					t.Fatalf("a call for precinct %d changes an argument", precinct)
				}
			}
		}
	}
}

// TestSpareCapacity has lists whose spare capacity would change the results.
func TestSpareCapacity(t *testing.T) {
	e := roomyElection(town(t, 3))
	sheet, _ := layout.Draw(e, 2, []int{0, 3, 7})
	sheet.Bits = spare(sheet.Bits, 0xff)
	checkJudgements(t, e, 2, sheet, []int{1, 0, 0, 1, 0, 0, 0, 1})
	for k, want := range []int{9, 0, 0, 9, 0, 0, 0, 9} {
		if got := Density(e, 2, sheet, k); got != want {
			t.Errorf("the density of target %d is %d, want %d", k, got, want)
		}
	}
	sheet.Bits = sheet.Bits[:len(sheet.Bits)-1]
	checkError(t, e, 2, sheet, api.ErrImage)
	checkNoDensity(t, e, 2, sheet, 0)
}

// TestResultsShareNothing overwrites one result after the other, with its spare capacity: no other result changes, and no result of later calls.
func TestResultsShareNothing(t *testing.T) {
	e := town(t, 2)
	var results, want [][]int
	for range 2 {
		for precinct := range e.Precincts {
			sheet, _ := layout.Draw(e, precinct, []int{precinct, 5})
			judged, _ := Judge(e, precinct, sheet)
			results, want = append(results, judged), append(want, slices.Clone(judged))
		}
	}
	for k := range results {
		list := results[k][:cap(results[k])]
		for n := range list {
			list[n] = 77
		}
		results[k] = want[k]
		if !reflect.DeepEqual(results, want) {
			t.Fatal("two results share memory")
		}
		precinct := k % len(e.Precincts)
		sheet, _ := layout.Draw(e, precinct, []int{precinct, 5})
		checkJudgements(t, e, precinct, sheet, want[k])
	}
}

// TestRepeatedCalls has calls that would be disturbed by what earlier ones left.
func TestRepeatedCalls(t *testing.T) {
	small, large := single(t, 2, 3, 1, 1), town(t, 4)
	one, _ := layout.Draw(small, 2, []int{0})
	many, _ := layout.Draw(large, 1, []int{1, 2, 4})
	for range 3 {
		checkJudgements(t, small, 2, one, []int{1})
		checkError(t, large, 2, one, api.ErrImage)
		checkJudgements(t, large, 1, many, []int{0, 1, 1, 0, 1, 0})
		checkError(t, api.Election{}, 1, many, api.ErrForm)
		checkNoDensity(t, api.Election{}, 1, many, 1)
		checkError(t, large, 4, many, api.ErrRange)
		checkNoDensity(t, large, 4, many, 1)
		checkError(t, large, 1, api.Image{}, api.ErrImage)
	}
}

// TestLongArguments has lists that no image and no election has.
func TestLongArguments(t *testing.T) {
	e, sheet := oddSheet(t)
	long := api.Image{W: sheet.W, H: sheet.H, Bits: append(slices.Clone(sheet.Bits), make([]byte, 10_000_000)...)}
	checkError(t, e, 1, long, api.ErrImage)
	checkNoDensity(t, e, 1, long, 0)
	e.Precincts = names(100_000)
	e.Styles[0].Precincts = slices.Repeat([]int{1}, 100_000)
	e.Contests[0].Ranks = math.MaxInt
	for _, i := range []api.Image{sheet, long} {
		checkError(t, e, 1, i, api.ErrForm)
		checkNoDensity(t, e, 1, i, 0)
	}
}
