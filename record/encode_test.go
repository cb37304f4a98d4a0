package record

import (
	"fmt"
	"math/rand"
	"slices"
	"testing"

	"election/api"
)

// TestExample is the example of the chapter.
func TestExample(t *testing.T) {
	e := single(t, 2, 2, 3, 3)
	r := api.Record{Precinct: 1, Votes: []api.Vote{{Ranks: [][]int{{0}, {}, {1, 2}}}}}
	checkRecord(t, e, r)
	checkEncoding(t, e, r, 1, 0, 1, 0, 6)
	r.Doubt = true
	checkEncoding(t, e, r, 1, 1, 1, 0, 6)
	checkEncoding(t, e, Void(), 255)
}

// TestSeveralVotes has votes in the order of the style.
func TestSeveralVotes(t *testing.T) {
	e := town(t)
	r := ballot()
	checkEncoding(t, e, r, 0, 0, 1, 0, 0, 1, 0, 2, 0, 3)
	r.Precinct, r.Doubt = 3, true
	checkEncoding(t, e, r, 3, 1, 1, 0, 0, 1, 0, 2, 0, 3)
	checkEncoding(t, e, api.Record{Precinct: 2, Votes: []api.Vote{{Contest: 2, Ranks: [][]int{{0, 1, 2, 3}, {1, 3}}}}}, 2, 0, 15, 10)
	checkEncoding(t, e, api.Record{Precinct: 1, Doubt: true, Votes: []api.Vote{{Ranks: [][]int{{}, {}, {}}}}}, 1, 1, 0, 0, 0)
}

// TestGreatestRecord has all limits at once.
func TestGreatestRecord(t *testing.T) {
	e := greatest(t)
	r := recordOf(e, 11, slices.Repeat([]int{api.MarkFilled}, targetsOf(e, 11)))
	r.Doubt = true
	want := append([]byte{11, 1}, slices.Repeat([]byte{127}, 28)...)
	checkRecord(t, e, r)
	checkEncoding(t, e, r, want...)
	for k := 2; k < len(want); k++ {
		for _, code := range []byte{128, 129, 255} {
			b := slices.Clone(want)
			b[k] = code
			checkNoEncoding(t, e, b...)
		}
	}
	checkNoEncoding(t, e, want[:29]...)
	checkNoEncoding(t, e, append(want, 0)...)
}

// smallElections returns elections whose records can be counted, and the number of records.
func smallElections(t *testing.T) (elections []api.Election, counts []int) {
	one, two, mixed := single(t, 2, 1, 1, 1), single(t, 2, 2, 2, 2), single(t, 2, 3, 2, 1)
	second := mixed.Contests[0]
	second.Name, second.Candidates = "d", names(1)
	mixed.Contests = append(mixed.Contests, second)
	mixed.Styles = []api.Style{{Name: "s", Precincts: []int{2}, Contests: []int{1, 0}}, {Name: "r", Precincts: []int{0, 1}, Contests: []int{1}}}
	checkValid(t, mixed)
	return []api.Election{one, two, mixed}, []int{1 + 2*2, 1 + 2*2*16, 1 + 2*8 + 2*2*2}
}

// TestAllBytes has all short strings of some bytes: those that encode a record are as many as there are records, and each of them encodes one alone.
func TestAllBytes(t *testing.T) {
	elections, counts := smallElections(t)
	for k, e := range elections {
		decoded := map[string]bool{}
		strings := [][]byte{nil}
		for len(strings) > 0 {
			b := strings[0]
			strings = strings[1:]
			r, ok := Decode(e, b)
			if ok {
				checkRecord(t, e, r)
				checkEncoding(t, e, r, b...)
				decoded[fmt.Sprintf("%+v", r)] = true
				counts[k]--
			} else {
				checkNoEncoding(t, e, b...)
			}
			for _, next := range []byte{0, 1, 2, 3, 4, 255} {
				if len(b) < 5 {
					strings = append(strings, append(slices.Clone(b), next))
				}
			}
		}
		if counts[k] != 0 || len(decoded) == 0 {
			t.Errorf("for election %d, the numbers of encodings and of records differ by %d; %d records are different", k, counts[k], len(decoded))
		}
	}
}

// TestEachByte changes one byte of an encoding to any other.
func TestEachByte(t *testing.T) {
	e := town(t)
	for _, r := range []api.Record{ballot(), {Precinct: 2, Votes: []api.Vote{{Contest: 2, Ranks: [][]int{{1, 2}, {3}}}}}} {
		want := encodingOf(r)
		decoded := 0
		for k := range want {
			for code := range 256 {
				b := slices.Clone(want)
				b[k] = byte(code)
				got, ok := Decode(e, b)
				if !ok {
					checkNoEncoding(t, e, b...)
					continue
				}
				decoded++
				checkRecord(t, e, got)
				checkEncoding(t, e, got, b...)
			}
		}
		// Precincts, doubts, and sets of candidates.
		count := 2 + 2 + 5*2 + 3*4
		if r.Precinct == 2 {
			count = 1 + 2 + 2*16
		}
		if decoded != count {
			t.Errorf("%d changed encodings of precinct %d are encodings, want %d", decoded, r.Precinct, count)
		}
	}
}

// TestLengths has encodings that are cut off or continued.
func TestLengths(t *testing.T) {
	e := town(t)
	checkNoEncoding(t, e)
	for precinct := range e.Precincts {
		b := encodingOf(recordOf(e, precinct, slices.Repeat([]int{1}, targetsOf(e, precinct))))
		for n := range b {
			checkNoEncoding(t, e, b[:n]...)
		}
		for n := 1; n < 12; n++ {
			checkNoEncoding(t, e, append(slices.Clone(b), make([]byte, n)...)...)
		}
	}
	for n := 1; n < 12; n++ {
		checkNoEncoding(t, e, append([]byte{255}, make([]byte, n)...)...)
		checkNoEncoding(t, e, slices.Repeat([]byte{255}, n+1)...)
	}
	checkNoEncoding(t, e, make([]byte, 10_000_000)...)
}

// TestOtherElections decodes an encoding for an election for which it is none, or that of another record.
func TestOtherElections(t *testing.T) {
	wide, long, more := single(t, 2, 2, 3, 2), single(t, 2, 2, 2, 3), single(t, 2, 3, 2, 2)
	e := single(t, 2, 2, 2, 2)
	r := api.Record{Precinct: 1, Votes: []api.Vote{{Ranks: [][]int{{1}, {0, 1}}}}}
	for _, other := range []api.Election{e, wide, more} {
		checkRecord(t, other, r)
	}
	checkNoRecord(t, long, r)
	checkNoEncoding(t, long, 1, 0, 2, 3)
	checkNoEncoding(t, e, 1, 0, 2, 4)
	checkNoEncoding(t, e, 2, 0, 2, 3)
}

func TestRandomBytes(t *testing.T) {
	r := rand.New(rand.NewSource(22))
	decoded := 0
	for range 8_000 {
		e := town(t)
		b := make([]byte, []int{4, 5, 10, r.Intn(12)}[r.Intn(4)])
		for k := range b {
			b[k] = byte(r.Intn(1 << r.Intn(5)))
		}
		got, ok := Decode(e, b)
		if !ok {
			checkNoEncoding(t, e, b...)
			continue
		}
		decoded++
		checkRecord(t, e, got)
		checkEncoding(t, e, got, b...)
	}
	if decoded < 200 || decoded > 7000 {
		t.Errorf("%d strings are encodings", decoded)
	}
}
