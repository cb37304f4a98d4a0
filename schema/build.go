package schema

import (
	"slices"

	"election/api"
)

// build returns the election that a definition without faults describes.
func build(s api.Source) api.Election {
	e := api.Election{Title: s.Title, Precincts: precinctNames(s.Blocks)}
	contests := contestNames(s.Blocks)
	for _, b := range s.Blocks {
		switch b.Kind {
		case "scan":
			e.Dots, e.Blank, e.Marked = number(b, "dots"), number(b, "blank"), number(b, "marked")
		case "scanners":
			e.Scanners, e.Batch = number(b, "count"), number(b, "batch")
		case "contest":
			e.Contests = append(e.Contests, buildContest(b))
		case "style":
			e.Styles = append(e.Styles, buildStyle(b, e.Precincts, contests))
		case "audit":
			e.Risk, e.Seed = toRatio(value(b, "risk")), value(b, "seed")
		case "privacy":
			e.Cell = number(b, "cell")
		}
	}
	return e
}

func buildContest(b api.Block) api.Contest {
	return api.Contest{
		Name:       b.Name,
		Candidates: slices.Clone(fieldOf(b, "candidates").Values),
		Method:     code(b, "method"),
		Seats:      number(b, "seats"),
		Ranks:      number(b, "ranks"),
		Digits:     number(b, "digits"),
		Ties:       code(b, "ties"),
		Overvote:   code(b, "overvote"),
		Skip:       code(b, "skip"),
	}
}

func buildStyle(b api.Block, precincts, contests []string) api.Style {
	return api.Style{
		Name:      b.Name,
		Precincts: indices(precincts, fieldOf(b, "precincts").Values),
		Contests:  indices(contests, fieldOf(b, "contests").Values),
	}
}

// indices returns the indices of names in a list that has all of them.
func indices(list, names []string) []int {
	var found []int
	for _, name := range names {
		found = append(found, slices.Index(list, name))
	}
	return found
}
