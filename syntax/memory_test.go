package syntax

import (
	"fmt"
	"reflect"
	"strings"
	"testing"

	"election/api"
)

const several = `election "E" { a { b 1, 2, 3; c x; } d e { b 1, 2, 3, 4, 5; } a { } f { g 1; g 2; g 3; } }`

// overwriteBlock changes a block and everything in its memory, spare capacity included.
func overwriteBlock(b *api.Block) {
	fields := b.Fields[:cap(b.Fields)]
	for i := range fields {
		overwriteValues(fields[i].Values)
		fields[i] = api.Field{Key: "other", Values: []string{"other"}, Line: -1}
	}
	*b = api.Block{Kind: "other", Name: "other", Line: -1}
}

func overwriteValues(values []string) {
	values = values[:cap(values)]
	for i := range values {
		values[i] = "other"
	}
}

// TestResultsShareNothing overwrites one part of a result after the other.
func TestResultsShareNothing(t *testing.T) {
	want, _ := Parse(several)
	want = tidy(want, true)
	first, _ := Parse(several)
	second, _ := Parse(several)
	for i := range first.Blocks {
		overwriteBlock(&first.Blocks[i])
		for j := i + 1; j < len(first.Blocks); j++ {
			if !reflect.DeepEqual(tidy(first, true).Blocks[j], want.Blocks[j]) {
				t.Fatalf("block %d shares memory with block %d", j, i)
			}
		}
	}
	clear(first.Blocks[:cap(first.Blocks)])
	if third, fault := Parse(several); fault != (api.Fault{}) || !equal(second, want) || !equal(third, want) {
		t.Errorf("Parse is %v, then %v, %v after a change of an earlier result, want %v", second, third, fault, want)
	}
}

// TestFieldsShareNothing overwrites the values of each field.
func TestFieldsShareNothing(t *testing.T) {
	want, _ := Parse(several)
	want = tidy(want, true)
	for i := range want.Blocks {
		for j := range want.Blocks[i].Fields {
			got, _ := Parse(several)
			changed := &got.Blocks[i].Fields[j].Values
			overwriteValues(*changed)
			*changed = want.Blocks[i].Fields[j].Values
			if !equal(got, want) {
				t.Fatalf("field %d of block %d shares memory", j, i)
			}
		}
	}
}

// spare returns a copy of a list with spare capacity that is not zero.
func spare[T any](list []T, filler T) []T {
	return append(append([]T{}, list...), filler, filler)[:len(list)]
}

// roomy returns a deep copy of a definition whose lists all have spare capacity.
func roomy(s api.Source) api.Source {
	s.Blocks = spare(s.Blocks, block(9, "spare", "spare", field(9, "spare", "spare")))
	for i := range s.Blocks {
		b := &s.Blocks[i]
		b.Fields = spare(b.Fields, field(9, "spare", "spare"))
		for j := range b.Fields {
			b.Fields[j].Values = spare(b.Fields[j].Values, "spare")
		}
	}
	return s
}

// whole returns a deep copy of a definition in which the spare capacity of each list belongs to the list.
func whole(s api.Source) api.Source {
	s.Blocks = append([]api.Block{}, s.Blocks[:cap(s.Blocks)]...)
	for i := range s.Blocks {
		b := &s.Blocks[i]
		b.Fields = append([]api.Field{}, b.Fields[:cap(b.Fields)]...)
		for j := range b.Fields {
			f := &b.Fields[j]
			f.Values = append([]string{}, f.Values[:cap(f.Values)]...)
		}
	}
	return s
}

func TestPrintKeepsItsArgument(t *testing.T) {
	parsed, _ := Parse(several)
	invalid := tidy(parsed, true)
	invalid.Blocks[1].Fields[0].Values[4] = "\n"
	for _, s := range []api.Source{parsed, invalid, definition(strings.Repeat("t", api.MaxText))} {
		argument := roomy(s)
		before := whole(argument)
		Print(argument)
		if after := whole(argument); !reflect.DeepEqual(after, before) {
			t.Errorf("Print changes %s to %s", preview(fmt.Sprint(before)), preview(fmt.Sprint(after)))
		}
	}
}

// TestCallsAreIndependent repeats calls after others.
func TestCallsAreIndependent(t *testing.T) {
	texts := []string{several, example, "", "election \"E\" {\na", "\n\nA", strings.Repeat(" ", api.MaxText+1)}
	for _, a := range texts {
		s, fault := Parse(a)
		printed, ok := Print(s)
		for _, b := range texts {
			other, _ := Parse(b)
			Print(other)
			again, sameFault := Parse(a)
			printedAgain, sameOK := Print(again)
			if !equal(again, s) || sameFault != fault || printedAgain != printed || sameOK != ok {
				t.Errorf("the results for %q depend on the calls before", preview(a))
			}
		}
	}
}
