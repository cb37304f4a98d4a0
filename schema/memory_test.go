package schema

import (
	"math"
	"reflect"
	"slices"
	"strings"
	"testing"

	"election/api"
)

// spare returns a copy of a list with spare capacity that is not zero.
func spare[T any](list []T, filler T) []T {
	return append(append([]T{}, list...), filler, filler)[:len(list)]
}

// whole returns a copy of a list in which its spare capacity belongs to it.
func whole[T any](list []T) []T { return append([]T{}, list[:cap(list)]...) }

// fill overwrites a list and its spare capacity.
func fill[T any](list []T, filler T) {
	list = list[:cap(list)]
	for i := range list {
		list[i] = filler
	}
}

// mapSource returns a deep copy of a definition, whose lists are copied by these functions.
func mapSource(s api.Source, blocks func([]api.Block) []api.Block, fields func([]api.Field) []api.Field, values func([]string) []string) api.Source {
	s.Blocks = blocks(s.Blocks)
	for i := range s.Blocks {
		b := &s.Blocks[i]
		b.Fields = fields(b.Fields)
		for j := range b.Fields {
			b.Fields[j].Values = values(b.Fields[j].Values)
		}
	}
	return s
}

func roomySource(s api.Source) api.Source {
	field := api.Field{Key: "spare", Values: []string{"spare"}, Line: 9}
	return mapSource(s,
		func(list []api.Block) []api.Block {
			return spare(list, api.Block{Kind: "spare", Fields: []api.Field{field}})
		},
		func(list []api.Field) []api.Field { return spare(list, field) },
		func(list []string) []string { return spare(list, "spare") })
}

func wholeSource(s api.Source) api.Source {
	return mapSource(s, whole[api.Block], whole[api.Field], whole[string])
}

func roomyElection(e api.Election) api.Election {
	e.Precincts = spare(e.Precincts, "spare")
	e.Risk.Num, e.Risk.Den = spare(e.Risk.Num, 9), spare(e.Risk.Den, 9)
	e.Contests = spare(e.Contests, api.Contest{Name: "spare"})
	for i := range e.Contests {
		e.Contests[i].Candidates = spare(e.Contests[i].Candidates, "spare")
	}
	e.Styles = spare(e.Styles, api.Style{Name: "spare"})
	for i := range e.Styles {
		e.Styles[i].Precincts, e.Styles[i].Contests = spare(e.Styles[i].Precincts, 9), spare(e.Styles[i].Contests, 9)
	}
	return e
}

func wholeElection(e api.Election) api.Election {
	e.Precincts = whole(e.Precincts)
	e.Risk.Num, e.Risk.Den = whole(e.Risk.Num), whole(e.Risk.Den)
	e.Contests = whole(e.Contests)
	for i := range e.Contests {
		e.Contests[i].Candidates = whole(e.Contests[i].Candidates)
	}
	e.Styles = whole(e.Styles)
	for i := range e.Styles {
		e.Styles[i].Precincts, e.Styles[i].Contests = whole(e.Styles[i].Precincts), whole(e.Styles[i].Contests)
	}
	return e
}

func TestArgumentsStay(t *testing.T) {
	broken := parse(t, example)
	broken.Blocks[7].Fields[0].Values[0] = "west"
	for _, s := range []api.Source{parse(t, example), broken, {}} {
		argument := roomySource(s)
		before := wholeSource(argument)
		Compile(argument)
		if after := wholeSource(argument); !reflect.DeepEqual(after, before) {
			t.Errorf("Compile changes %s to %s", preview(before), preview(after))
		}
	}
	wrong := exampleElection()
	wrong.Risk.Num[0] = 2
	for _, e := range []api.Election{exampleElection(), wrong, {}} {
		argument, other := roomyElection(e), roomyElection(e)
		before := wholeElection(argument)
		Valid(argument)
		Source(argument)
		StyleOf(argument, 1)
		if !Equal(argument, other) || !reflect.DeepEqual(wholeElection(argument), before) || !reflect.DeepEqual(wholeElection(other), before) {
			t.Errorf("a call changes %s", preview(before))
		}
	}
}

// parts returns all the lists in an election that have no lists in them, as functions that overwrite them.
func parts(e api.Election) []func() {
	all := []func(){
		func() { fill(e.Precincts, "other") },
		func() { fill(e.Risk.Num, 77) },
		func() { fill(e.Risk.Den, 77) },
	}
	for _, c := range e.Contests {
		all = append(all, func() { fill(c.Candidates, "other") })
	}
	for _, s := range e.Styles {
		all = append(all, func() { fill(s.Precincts, 77) }, func() { fill(s.Contests, 77) })
	}
	return append(all, func() { fill(e.Contests, api.Contest{}) }, func() { fill(e.Styles, api.Style{}) })
}

// TestElectionsShareNothing overwrites each part of an election: no other part, no other result and no argument changes.
func TestElectionsShareNothing(t *testing.T) {
	s := parse(t, example)
	for i := range parts(exampleElection()) {
		e, _ := Compile(s)
		kept, _ := Compile(s)
		parts(e)[i]()
		if changes := countChanges(e, kept); changes != 1 {
			t.Errorf("to overwrite part %d changes %d parts", i, changes)
		}
		if !reflect.DeepEqual(kept, exampleElection()) || !reflect.DeepEqual(s, parse(t, example)) {
			t.Fatalf("part %d has the memory of another result or of the argument", i)
		}
	}
}

// countChanges counts the lists that differ. Lists of structs are compared without the lists in them.
func countChanges(a, b api.Election) int {
	changes := 0
	count := func(equal bool) { changes += btoi(!equal) }
	count(slices.Equal(a.Precincts, b.Precincts))
	count(slices.Equal(a.Risk.Num, b.Risk.Num))
	count(slices.Equal(a.Risk.Den, b.Risk.Den))
	if a.Contests[0].Name == "" || a.Styles[0].Name == "" {
		return changes + 1
	}
	for i := range a.Contests {
		count(slices.Equal(a.Contests[i].Candidates, b.Contests[i].Candidates))
	}
	for i := range a.Styles {
		count(slices.Equal(a.Styles[i].Precincts, b.Styles[i].Precincts))
		count(slices.Equal(a.Styles[i].Contests, b.Styles[i].Contests))
	}
	return changes
}

// TestSourcesShareNothing overwrites the values of each field of a definition, and then all the rest.
func TestSourcesShareNothing(t *testing.T) {
	e := exampleElection()
	want, _ := Source(e)
	want = mapSource(want, slices.Clone[[]api.Block], slices.Clone[[]api.Field], slices.Clone[[]string])
	for i := range want.Blocks {
		for j := range want.Blocks[i].Fields {
			s, _ := Source(e)
			kept, _ := Source(e)
			values := &s.Blocks[i].Fields[j].Values
			fill(*values, "other")
			*values = slices.Clone(want.Blocks[i].Fields[j].Values)
			if !reflect.DeepEqual(s, want) || !reflect.DeepEqual(kept, want) || !reflect.DeepEqual(e, exampleElection()) {
				t.Fatalf("the values of field %d of block %d share memory", j, i)
			}
		}
		s, _ := Source(e)
		kept, _ := Source(e)
		fill(s.Blocks[i].Fields, api.Field{})
		s.Blocks[i] = kept.Blocks[i]
		if !reflect.DeepEqual(s, want) {
			t.Fatalf("the fields of block %d share memory", i)
		}
		fill(s.Blocks, api.Block{})
		if !reflect.DeepEqual(kept, want) {
			t.Fatal("two definitions share memory")
		}
	}
}

// TestCallsAreIndependent repeats calls after others.
func TestCallsAreIndependent(t *testing.T) {
	var sources []api.Source
	for _, old := range []string{"dots 3", "seats 1", "contest mayor", "style land", "risk 1/20"} {
		key, _, _ := strings.Cut(old, " ")
		sources = append(sources, parse(t, change(t, example, old, key+" x")), parse(t, change(t, example, old, "#\n"+old)))
	}
	for _, a := range sources {
		e, fault := Compile(a)
		s, ok := Source(e)
		for _, b := range sources {
			other, _ := Compile(b)
			Source(other)
			again, sameFault := Compile(a)
			sameSource, sameOk := Source(again)
			if !reflect.DeepEqual(again, e) || sameFault != fault || !reflect.DeepEqual(sameSource, s) || sameOk != ok {
				t.Fatalf("the results for %s depend on the calls before", preview(a))
			}
		}
	}
}

// TestLongArguments has lists and texts that no definition has.
func TestLongArguments(t *testing.T) {
	long := strings.Repeat("1", 1000000)
	limbs := slices.Repeat(api.Nat{math.MaxUint32}, 100000)
	for _, change := range []func(e *api.Election){
		func(e *api.Election) { e.Title = long },
		func(e *api.Election) { e.Precincts = slices.Repeat([]string{"a"}, 100000) },
		func(e *api.Election) { e.Contests = slices.Repeat(e.Contests, 30000) },
		func(e *api.Election) { e.Styles = slices.Repeat(e.Styles, 30000) },
		func(e *api.Election) { e.Styles[0].Precincts = slices.Repeat([]int{0, math.MinInt}, 30000) },
		func(e *api.Election) { e.Risk = api.Ratio{Num: limbs[1:], Den: limbs} },
		func(e *api.Election) { e.Risk = api.Ratio{Num: api.Nat{1}, Den: limbs} },
		func(e *api.Election) { e.Risk = api.Ratio{Num: limbs, Den: api.Nat{2}} },
		func(e *api.Election) { e.Contests[0].Candidates = []string{long} },
	} {
		e := exampleElection()
		change(&e)
		if _, ok := Source(e); ok || Valid(e) || Equal(e, exampleElection()) || StyleOf(e, -1) != -1 {
			t.Errorf("%s is valid", preview(e))
		}
	}
	checkFault(t, api.Source{Blocks: slices.Repeat(parse(t, example).Blocks, 30000)}, api.ErrDuplicate, 2, "many blocks")
	for _, value := range []string{long, "1/" + long, "a" + long, long + "/1"} {
		checkChange(t, "dots 3", `dots "`+value[:1000]+`"`, api.ErrKind, "dots")
		s := parse(t, example)
		s.Blocks[0].Fields[0].Values[0] = value
		checkFault(t, s, api.ErrKind, 3, "a long number")
		s = parse(t, example)
		s.Blocks[8].Fields[0].Values = slices.Repeat([]string{value}, 2)
		checkFault(t, s, api.ErrLength, lineOf(t, example, "risk"), "two long fractions")
		s.Blocks[8].Fields[0].Values = []string{value}
		checkFault(t, s, api.ErrKind, lineOf(t, example, "risk"), "a long fraction")
	}
}
