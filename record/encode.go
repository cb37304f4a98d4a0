package record

import (
	"election/api"
	"election/schema"
)

const (
	voidCode = 255 // the encoding of the void record; no election has so many precincts
	header   = 2   // bytes before the votes: the precinct and the doubt
)

// Encode returns the encoding of a record, or nil if the record is not valid for e.
func Encode(e api.Election, r api.Record) []byte {
	switch {
	case !Valid(e, r):
		return nil
	case Equal(r, Void()):
		return []byte{voidCode}
	}
	b := []byte{byte(r.Precinct), 0}
	if r.Doubt {
		b[1] = 1
	}
	for _, v := range r.Votes {
		for _, list := range v.Ranks {
			b = append(b, codeOf(list))
		}
	}
	return b
}

// Decode returns the record that is valid for e and has this encoding, and true, or the zero Record and false if there is none.
func Decode(e api.Election, b []byte) (api.Record, bool) {
	switch {
	case !schema.Valid(e) || len(b) == 0:
		return api.Record{}, false
	case len(b) == 1 && b[0] == voidCode:
		return Void(), true
	}
	style := schema.StyleOf(e, int(b[0]))
	if style < 0 || len(b) != sizeOf(e, style) || b[1] > 1 {
		return api.Record{}, false
	}
	r := api.Record{Precinct: int(b[0]), Doubt: b[1] == 1}
	codes := b[header:]
	for _, contest := range e.Styles[style].Contests {
		ranks := e.Contests[contest].Ranks
		r.Votes = append(r.Votes, api.Vote{Contest: contest, Ranks: listsOf(codes[:ranks])})
		codes = codes[ranks:]
	}
	// A code may have bits of candidates that there are not.
	if !belongs(e, r) {
		return api.Record{}, false
	}
	return r, true
}

// sizeOf returns the length of the encodings of a style's records.
func sizeOf(e api.Election, style int) int {
	size := header
	for _, contest := range e.Styles[style].Contests {
		size += e.Contests[contest].Ranks
	}
	return size
}

// codeOf returns the byte that has the bits of the candidates in a list.
func codeOf(list []int) byte {
	code := byte(0)
	for _, candidate := range list {
		code |= 1 << candidate
	}
	return code
}

// listsOf returns for each code the candidates whose bits it has.
func listsOf(codes []byte) [][]int {
	lists := make([][]int, len(codes))
	for rank, code := range codes {
		for candidate := range 8 {
			if code>>candidate&1 == 1 {
				lists[rank] = append(lists[rank], candidate)
			}
		}
	}
	return lists
}
