package schema

import (
	"slices"
	"strconv"

	"election/api"
	"election/ratio"
)

// describe returns the definition of an election. What an election that is not valid has and no definition can say becomes a value that has a fault, or is left out.
func describe(e api.Election) api.Source {
	blocks := []api.Block{
		block("scan", "", numeric("dots", e.Dots), numeric("blank", e.Blank), numeric("marked", e.Marked)),
		block("scanners", "", numeric("count", e.Scanners), numeric("batch", e.Batch)),
		block("precincts", "", field("names", slices.Clone(e.Precincts)...)),
	}
	var contests []string
	for _, c := range e.Contests {
		blocks = append(blocks, describeContest(c))
		contests = append(contests, c.Name)
	}
	for _, s := range e.Styles {
		blocks = append(blocks, block("style", s.Name,
			field("precincts", pick(e.Precincts, s.Precincts)...),
			field("contests", pick(contests, s.Contests)...)))
	}
	blocks = append(blocks,
		block("audit", "", field("risk", ratio.Text(e.Risk)), field("seed", e.Seed)),
		block("privacy", "", numeric("cell", e.Cell)))
	return api.Source{Title: e.Title, Blocks: blocks}
}

func describeContest(c api.Contest) api.Block {
	fields := []api.Field{choice("method", c.Method), numeric("seats", c.Seats), numeric("ranks", c.Ranks)}
	if c.Method == api.MethodMeek {
		fields = append(fields, numeric("digits", c.Digits))
	}
	fields = append(fields,
		choice("ties", c.Ties), choice("overvote", c.Overvote), choice("skip", c.Skip),
		field("candidates", slices.Clone(c.Candidates)...))
	return block("contest", c.Name, fields...)
}

func block(kind, name string, fields ...api.Field) api.Block {
	return api.Block{Kind: kind, Name: name, Fields: fields}
}

func field(key string, values ...string) api.Field { return api.Field{Key: key, Values: values} }

func numeric(key string, n int) api.Field { return field(key, strconv.Itoa(n)) }

func choice(key string, code int) api.Field { return field(key, at(words(key), code)) }

// pick returns the names in a list that have these indices, and "" for an index without a name.
func pick(list []string, indices []int) []string {
	var names []string
	for _, i := range indices {
		names = append(names, at(list, i))
	}
	return names
}
