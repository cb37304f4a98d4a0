package record

import (
	"math"
	"reflect"
	"slices"
	"testing"

	"election/api"
	"election/image"
)

// spare returns a copy of a list with spare capacity that is not zero.
func spare[T any](list []T, filler T) []T {
	return append(append([]T{}, list...), filler, filler)[:len(list)]
}

// whole returns a copy of a list in which its spare capacity belongs to it.
func whole[T any](list []T) []T { return append([]T{}, list[:cap(list)]...) }

func roomyElection(e api.Election) api.Election {
	e.Precincts = spare(e.Precincts, "spare")
	e.Risk.Num, e.Risk.Den = spare(e.Risk.Num, 9), spare(e.Risk.Den, 9)
	e.Contests, e.Styles = spare(e.Contests, api.Contest{Name: "spare"}), spare(e.Styles, api.Style{Name: "spare"})
	for i := range e.Contests {
		e.Contests[i].Candidates = spare(e.Contests[i].Candidates, "spare")
	}
	for i := range e.Styles {
		e.Styles[i].Precincts, e.Styles[i].Contests = spare(e.Styles[i].Precincts, 9), spare(e.Styles[i].Contests, 9)
	}
	return e
}

func wholeElection(e api.Election) api.Election {
	e.Precincts = whole(e.Precincts)
	e.Risk.Num, e.Risk.Den = whole(e.Risk.Num), whole(e.Risk.Den)
	e.Contests, e.Styles = whole(e.Contests), whole(e.Styles)
	for i := range e.Contests {
		e.Contests[i].Candidates = whole(e.Contests[i].Candidates)
	}
	for i := range e.Styles {
		e.Styles[i].Precincts, e.Styles[i].Contests = whole(e.Styles[i].Precincts), whole(e.Styles[i].Contests)
	}
	return e
}

func roomyRecord(r api.Record) api.Record {
	r.Votes = spare(r.Votes, api.Vote{Contest: 2, Ranks: [][]int{{0}, {1}}})
	for k := range r.Votes {
		r.Votes[k].Ranks = spare(r.Votes[k].Ranks, []int{0})
		for rank := range r.Votes[k].Ranks {
			r.Votes[k].Ranks[rank] = spare(r.Votes[k].Ranks[rank], 1)
		}
	}
	return r
}

func wholeRecord(r api.Record) api.Record {
	r.Votes = whole(r.Votes)
	for k := range r.Votes {
		r.Votes[k].Ranks = whole(r.Votes[k].Ranks)
		for rank := range r.Votes[k].Ranks {
			r.Votes[k].Ranks[rank] = whole(r.Votes[k].Ranks[rank])
		}
	}
	return r
}

// TestArgumentsStay calls each function with arguments that have spare capacity.
func TestArgumentsStay(t *testing.T) {
	invalid := town(t)
	invalid.Cell = 0
	wrong := ballot()
	wrong.Votes[1].Ranks[2] = []int{1, 0}
	sheet := image.Shift(image.Turn(draw(t, town(t), 0, 1, 4)), 2, -1)
	for _, e := range []api.Election{town(t), invalid, {}} {
		for _, r := range []api.Record{ballot(), wrong, Void(), {}, {Precinct: 3, Votes: ballot().Votes}} {
			for _, i := range []api.Image{sheet, {}, {W: 9, H: 9, Bits: []byte{1, 2}}} {
				e, r, b := roomyElection(e), roomyRecord(r), spare(encodingOf(r), 1)
				i.Bits = spare(i.Bits, 0xff)
				election, record, code, bits := wholeElection(e), wholeRecord(r), whole(b), whole(i.Bits)
				Valid(e, r)
				Equal(r, r)
				Equal(r, Void())
				Encode(e, r)
				Decode(e, b)
				Prefs(e, r, 0)
				Prefs(e, r, 1)
				Read(e, i)
				if !reflect.DeepEqual(wholeElection(e), election) || !reflect.DeepEqual(wholeRecord(r), record) || !slices.Equal(whole(b), code) || !slices.Equal(whole(i.Bits), bits) {
					t.Fatalf("a call changes an argument; the record is %+v", r)
				}
			}
		}
	}
}

// TestSpareCapacity has lists whose spare capacity would change the results.
func TestSpareCapacity(t *testing.T) {
	e := roomyElection(town(t))
	checkRecord(t, e, roomyRecord(ballot()))
	checkRecord(t, e, roomyRecord(Void()))
	b := spare(encodingOf(ballot()), 1)
	checkEncoding(t, e, ballot(), b...)
	checkNoEncoding(t, e, b[:9]...)
	checkEncoding(t, e, Void(), spare([]byte{255}, 7)...)
	if !Equal(roomyRecord(ballot()), ballot()) || !Equal(Void(), roomyRecord(Void())) {
		t.Error("Equal with spare capacity")
	}
	sheet := draw(t, e, 0, 0, 3, 7, 8, 10)
	sheet.Bits = spare(sheet.Bits, 0xff)
	checkRead(t, e, sheet, ballot())
}

// results returns what the functions return for the town.
func results(t *testing.T) (records []api.Record, codes [][]byte, lists [][]int) {
	e := town(t)
	for range 2 {
		void, _ := Decode(e, []byte{255})
		decoded, _ := Decode(e, encodingOf(ballot()))
		read, _ := Read(e, draw(t, e, 0, 0, 3, 7, 8, 10))
		list, _ := Prefs(e, ballot(), 0)
		records = append(records, Void(), void, decoded, read)
		codes = append(codes, Encode(e, ballot()), Encode(e, Void()))
		lists = append(lists, list)
	}
	return records, codes, lists
}

// overwrite changes everything in a record, with its spare capacity.
func overwrite(r api.Record) {
	votes := r.Votes[:cap(r.Votes)]
	for k := range votes {
		ranks := votes[k].Ranks[:cap(votes[k].Ranks)]
		for rank := range ranks {
			fill(ranks[rank], 77)
		}
		fill(ranks, []int{78})
	}
	fill(votes, api.Vote{Contest: 79})
}

// fill sets all elements of a list, with its spare capacity.
func fill[T any](list []T, value T) {
	list = list[:cap(list)]
	for k := range list {
		list[k] = value
	}
}

// TestResultsShareNothing overwrites one result after the other: no other result changes.
func TestResultsShareNothing(t *testing.T) {
	records, codes, lists := results(t)
	wantRecords, wantCodes, wantLists := results(t)
	check := func() {
		t.Helper()
		if !slices.EqualFunc(records, wantRecords, equalRecords) || !reflect.DeepEqual(codes, wantCodes) || !reflect.DeepEqual(lists, wantLists) {
			t.Fatal("two results share memory")
		}
	}
	check()
	for k := range records {
		overwrite(records[k])
		records[k] = wantRecords[k]
		check()
	}
	for k := range codes {
		fill(codes[k], 77)
		codes[k] = wantCodes[k]
		check()
	}
	for k := range lists {
		fill(lists[k], 77)
		lists[k] = wantLists[k]
		check()
	}
	records, codes, lists = results(t)
	check()
}

// TestArgumentsAreNotShared overwrites results: the arguments do not change.
func TestArgumentsAreNotShared(t *testing.T) {
	e, r := single(t, 2, 1, 2, 2), api.Record{Votes: []api.Vote{{Ranks: [][]int{{1}, {0}}}}}
	b := []byte{0, 0, 2, 1}
	sheet := draw(t, e, 0, 2, 1)
	election, bits := wholeElection(e), slices.Clone(sheet.Bits)
	for range 2 {
		checkEncoding(t, e, r, b...)
		fill(Encode(e, r), 77)
		decoded, _ := Decode(e, b)
		overwrite(decoded)
		list, _ := Prefs(e, r, 0)
		fill(list, 77)
		read, _ := Read(e, sheet)
		overwrite(read)
		checkRead(t, e, sheet, r)
	}
	if !slices.Equal(b, []byte{0, 0, 2, 1}) || !slices.Equal(sheet.Bits, bits) || !reflect.DeepEqual(e, election) {
		t.Fatal("a result shares memory with an argument")
	}
}

// TestListsShareNothing extends and overwrites each list of a record: no other list of it changes.
func TestListsShareNothing(t *testing.T) {
	e := greatest(t)
	b := append([]byte{3, 0}, slices.Repeat([]byte{127, 5, 0, 64}, 7)...)
	want, _ := Decode(e, b)
	decoded, _ := Decode(e, b)
	for k := range decoded.Votes {
		for rank, list := range decoded.Votes[k].Ranks {
			_ = append(list, 77, 78)
			fill(list, 79)
			decoded.Votes[k].Ranks[rank] = want.Votes[k].Ranks[rank]
			if !equalRecords(decoded, want) {
				t.Fatal("two lists share memory")
			}
		}
		_ = append(decoded.Votes[k].Ranks, []int{80})
		if !equalRecords(decoded, want) {
			t.Fatal("the ranks of two votes share memory")
		}
	}
}

// TestRepeatedCalls has calls that would be disturbed by what earlier ones left.
func TestRepeatedCalls(t *testing.T) {
	small, large := single(t, 2, 3, 1, 1), town(t)
	mark := api.Record{Precinct: 2, Votes: []api.Vote{{Ranks: [][]int{{0}}}}}
	for range 3 {
		checkRecord(t, small, mark)
		checkNoRecord(t, large, mark)
		checkRecord(t, large, ballot())
		checkNoRecord(t, api.Election{}, ballot())
		checkNoRecord(t, small, ballot())
		checkNoEncoding(t, large, 2, 0, 1)
		checkEncoding(t, small, mark, 2, 0, 1)
		checkRead(t, small, draw(t, small, 2, 0), mark)
		checkNoRead(t, large, draw(t, small, 2, 0), api.ErrImage)
		checkNoRead(t, api.Election{}, draw(t, small, 2, 0), api.ErrForm)
		checkRecord(t, large, Void())
	}
}

// TestLongArguments has lists that no record and no election has.
func TestLongArguments(t *testing.T) {
	e := town(t)
	const many = 3_000_000
	for _, r := range []api.Record{
		{Votes: make([]api.Vote, many)},
		{Precinct: -1, Votes: make([]api.Vote, many)},
		{Precinct: 1, Votes: []api.Vote{{Ranks: make([][]int, many)}}},
		{Precinct: 1, Votes: []api.Vote{{Ranks: [][]int{make([]int, many), nil, nil}}}},
		{Precinct: 1, Votes: []api.Vote{{Ranks: [][]int{nil, nil, slices.Repeat([]int{0, 1}, many/2)}}}},
	} {
		if Valid(e, r) || Encode(e, r) != nil || Equal(r, ballot()) || !Equal(r, r) {
			t.Error("a long record of precinct", r.Precinct)
		}
	}
	e.Precincts = names(100_000)
	e.Styles[0].Precincts = slices.Repeat([]int{1}, 100_000)
	e.Contests[0].Ranks = math.MaxInt
	checkNoRecord(t, e, Void())
	checkNoEncoding(t, e, 1, 0, 0, 0, 0)
	checkNoRead(t, e, draw(t, town(t), 1), api.ErrForm)
}
