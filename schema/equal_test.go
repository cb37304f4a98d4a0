package schema

import (
	"reflect"
	"testing"

	"election/api"
	"election/ratio"
)

// TestRiskInNormalForm has fractions that denote 1/20 and are not what Compile returns.
func TestRiskInNormalForm(t *testing.T) {
	for _, risk := range []api.Ratio{
		{Num: api.Nat{2}, Den: api.Nat{40}}, {Num: api.Nat{1, 0}, Den: api.Nat{20}}, {Num: api.Nat{1}, Den: api.Nat{20, 0}},
		{Num: api.Nat{1, 1}, Den: api.Nat{20, 20}},
	} {
		e := exampleElection()
		e.Risk = risk
		if !Equal(e, exampleElection()) || !Equal(exampleElection(), e) {
			t.Errorf("elections with the risks %v and 1/20 are not equal", risk)
		}
		if Valid(e) {
			t.Errorf("an election with the risk %v is valid", risk)
		}
	}
	for _, risk := range []api.Ratio{{}, ratio.Of(0), ratio.Of(1), ratio.Frac(-1, 20), ratio.Frac(1, 1001), ratio.Frac(2, 3), ratio.Frac(499999, 1000000), ratio.Frac(333333, 1000003), {Num: api.Nat{1}, Den: api.Nat{0}}} {
		e := exampleElection()
		e.Risk = risk
		if Valid(e) || Equal(e, exampleElection()) {
			t.Errorf("an election with the risk %v is valid", risk)
		}
	}
}

// TestEqual changes every single value of an election.
func TestEqual(t *testing.T) {
	if !Equal(exampleElection(), exampleElection()) || !Equal(api.Election{}, api.Election{}) {
		t.Error("an election is not equal to itself")
	}
	changes := 0
	for i := 0; ; i++ {
		e := exampleElection()
		left := i
		if !changeValue(reflect.ValueOf(&e).Elem(), &left) {
			break
		}
		changes++
		if Equal(e, exampleElection()) || Equal(exampleElection(), e) {
			t.Errorf("%+v is equal to the example", e)
		}
	}
	if changes != 68 {
		t.Errorf("%d values were changed", changes)
	}
}

// changeValue changes the value, element or length that comes after so many others, and reports whether there is one.
func changeValue(v reflect.Value, left *int) bool {
	switch v.Kind() {
	case reflect.Struct:
		for i := range v.NumField() {
			if changeValue(v.Field(i), left) {
				return true
			}
		}
		return false
	case reflect.Slice:
		for i := range v.Len() {
			if changeValue(v.Index(i), left) {
				return true
			}
		}
	}
	*left--
	if *left >= 0 {
		return false
	}
	switch v.Kind() {
	case reflect.Slice:
		v.Set(v.Slice(0, v.Len()-1))
	case reflect.String:
		v.SetString(v.String() + "x")
	case reflect.Int:
		v.SetInt(v.Int() + 1)
	case reflect.Uint32:
		v.SetUint(v.Uint() + 1)
	case reflect.Bool:
		v.SetBool(!v.Bool())
	}
	return true
}

func TestNilAndEmpty(t *testing.T) {
	e := api.Election{Contests: []api.Contest{{}}, Styles: []api.Style{{}}}
	empty := api.Election{Precincts: []string{}, Contests: []api.Contest{{Candidates: []string{}}}, Styles: []api.Style{{Precincts: []int{}, Contests: []int{}}}, Risk: api.Ratio{Num: api.Nat{}, Den: api.Nat{}}}
	if !Equal(e, empty) || !Equal(empty, e) || Valid(e) || Valid(empty) || StyleOf(empty, 0) != -1 {
		t.Error("nil and empty lists are not equivalent")
	}
	if !Equal(api.Election{}, api.Election{Contests: []api.Contest{}, Styles: []api.Style{}}) || Equal(api.Election{}, empty) {
		t.Error("nil and empty lists are not equivalent")
	}
}
