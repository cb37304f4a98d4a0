package align

import (
	"reflect"
	"slices"
	"testing"

	"election/api"
)

// spare returns a copy of a list with spare capacity that is not zero.
func spare[T any](list []T, filler T) []T {
	return append(append([]T{}, list...), filler, filler)[:len(list)]
}

// whole returns a copy of a list in which its spare capacity belongs to it.
func whole[T any](list []T) []T { return append([]T{}, list[:cap(list)]...) }

func roomyElection(e api.Election) api.Election {
	e.Precincts = spare(e.Precincts, "spare")
	e.Risk.Num, e.Risk.Den = spare(e.Risk.Num, 9), spare(e.Risk.Den, 9)
	e.Contests, e.Styles = spare(e.Contests, api.Contest{Name: "spare"}), spare(e.Styles, api.Style{Name: "spare"})
	for i := range e.Contests {
		e.Contests[i].Candidates = spare(e.Contests[i].Candidates, "spare")
	}
	for i := range e.Styles {
		e.Styles[i].Precincts, e.Styles[i].Contests = spare(e.Styles[i].Precincts, 9), spare(e.Styles[i].Contests, 9)
	}
	return e
}

func wholeElection(e api.Election) api.Election {
	e.Precincts = whole(e.Precincts)
	e.Risk.Num, e.Risk.Den = whole(e.Risk.Num), whole(e.Risk.Den)
	e.Contests, e.Styles = whole(e.Contests), whole(e.Styles)
	for i := range e.Contests {
		e.Contests[i].Candidates = whole(e.Contests[i].Candidates)
	}
	for i := range e.Styles {
		e.Styles[i].Precincts, e.Styles[i].Contests = whole(e.Styles[i].Precincts), whole(e.Styles[i].Contests)
	}
	return e
}

// TestArgumentsStay has spare capacity that would change the results, too.
func TestArgumentsStay(t *testing.T) {
	invalid := town(t, 3)
	invalid.Cell = 0
	for _, e := range []api.Election{town(t, 3), invalid, {}} {
		for _, pose := range []api.Pose{{}, {DX: -2, DY: 3}, {Turned: true}, {DX: 3, DY: 3, Turned: true}} {
			p := draw(town(t, 3), 2, full).lay(pose)
			for _, i := range []api.Image{p.toImage(), p.shift(5, 5).toImage(), {}, {W: 9, H: 9, Bits: []byte{1, 2}}} {
				argument := roomyElection(e)
				i.Bits = spare(i.Bits, 0xff)
				before, bits := wholeElection(argument), whole(i.Bits)
				Find(argument, i)
				Straighten(i, pose)
				if !reflect.DeepEqual(wholeElection(argument), before) || !slices.Equal(whole(i.Bits), bits) {
					t.Fatalf("a call with %+v changes an argument", pose)
				}
			}
		}
	}
	e := roomyElection(town(t, 3))
	i := draw(e, 2, full).turn().toImage()
	i.Bits = spare(i.Bits, 0xff)
	if pose, err := Find(e, i); err != api.OK || pose != (api.Pose{Turned: true, Precinct: 2}) {
		t.Error("Find with spare capacity", pose, err)
	}
	if got := Straighten(i, api.Pose{Turned: true}); !reflect.DeepEqual(got, draw(e, 2, full).toImage()) {
		t.Error("Straighten with spare capacity", preview(got))
	}
}

// TestResultsShareNothing overwrites one result after the other, with its spare capacity: no other result changes, nor the argument.
func TestResultsShareNothing(t *testing.T) {
	p := draw(town(t, 3), 1, full)
	argument := p.toImage()
	var results, want []api.Image
	for range 2 {
		for _, pose := range []api.Pose{{}, {DX: 1}, {DY: -2}, {Turned: true}, {DX: 3, DY: 1, Turned: true}, {DX: 600}} {
			results = append(results, Straighten(argument, pose))
			want = append(want, p.shift(-pose.DX, -pose.DY).toImage())
			if pose.Turned {
				want[len(want)-1] = p.straighten(pose).toImage()
			}
		}
	}
	for k := range results {
		list := results[k].Bits[:cap(results[k].Bits)]
		for n := range list {
			list[n] = 77
		}
		results[k] = want[k]
		if !reflect.DeepEqual(results, want) || !reflect.DeepEqual(argument, p.toImage()) {
			t.Fatal("a result shares memory with another one, or with the argument")
		}
	}
}

// TestRepeatedCalls has calls that would be disturbed by what earlier ones left.
func TestRepeatedCalls(t *testing.T) {
	small, large := single(t, 2, 3, 1, 1), town(t, 4)
	for range 3 {
		checkPose(t, small, draw(small, 2, full).shift(1, 1), api.Pose{DX: 1, DY: 1, Precinct: 2})
		checkNoPose(t, large, draw(small, 2, full).toImage(), api.ErrImage)
		checkPose(t, large, draw(large, 1, full).turn(), api.Pose{Turned: true, Precinct: 1})
		checkNoPose(t, api.Election{}, draw(large, 1, full).toImage(), api.ErrForm)
		checkNoPose(t, large, api.Image{}, api.ErrImage)
	}
}

// TestLongArguments has lists that no image and no election has.
func TestLongArguments(t *testing.T) {
	e, sheet := oddSheet(t)
	i := sheet.toImage()
	long := api.Image{W: i.W, H: i.H, Bits: append(slices.Clone(i.Bits), make([]byte, 10_000_000)...)}
	checkNoPose(t, e, long, api.ErrImage)
	if got := Straighten(long, api.Pose{}); !reflect.DeepEqual(got, api.Image{}) {
		t.Error("Straighten of a long image", preview(got))
	}
	e.Precincts = names(100_000)
	e.Styles[0].Precincts = slices.Repeat([]int{1}, 100_000)
	checkNoPose(t, e, i, api.ErrForm)
	checkNoPose(t, e, long, api.ErrForm)
}
