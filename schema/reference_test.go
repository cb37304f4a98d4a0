package schema

import (
	"fmt"
	"maps"
	"math"
	"math/big"
	"math/rand"
	"reflect"
	"regexp"
	"slices"
	"strings"
	"testing"

	"election/api"
	"election/syntax"
)

// table is the table of the chapter: kind, key, form, limits or words.
const table = `
scan dots number 2 7
scan blank number 1 100
scan marked number 1 100
scanners count number 1 6
scanners batch number 1 16
precincts names names 12
contest method word irv meek gregory
contest seats number 1 5
contest ranks number 1 7
contest digits number 1 6
contest ties word backwards forwards lot
contest overvote word stop skip
contest skip word close stop two
contest candidates names 7
style precincts names 12
style contests names 4
audit risk fraction
audit seed text
privacy cell number 1 400`

var (
	titlePattern    = regexp.MustCompile(`\A[ -~]{0,60}\z`)
	seedPattern     = regexp.MustCompile(`\A[ -~]{0,24}\z`)
	namePattern     = regexp.MustCompile(`\A[ -~]{1,24}\z`)
	wordPattern     = regexp.MustCompile(`\A[a-z][a-z0-9-]{0,23}\z`)
	numberPattern   = regexp.MustCompile(`\A(0|[1-9][0-9]{0,5})\z`)
	fractionPattern = regexp.MustCompile(`\A(0|[1-9][0-9]{0,5})/(0|[1-9][0-9]{0,5})\z`)
)

// rows are the rows of the table, divided into words.
var rows = func() (rows [][]string) {
	for _, line := range strings.Split(strings.TrimSpace(table), "\n") {
		rows = append(rows, strings.Fields(line))
	}
	return rows
}()

// row returns the rest of the row of the table that has a kind and a key.
func row(kind, key string) []string {
	for _, row := range rows {
		if row[0] == kind && row[1] == key {
			return slices.Clone(row[2:])
		}
	}
	return nil
}

func toNumber(value string) int {
	var n int
	fmt.Sscan(value, &n)
	return n
}

// found collects all faults of a definition with their places, so that the first one can be taken: a place is the index of the block, the step, the index of the field and that of the value, and the number of the check.
type found struct {
	faults map[[5]int]api.Fault
	block  int
}

func (f *found) add(wrong bool, err api.Errno, line, step, field, value, number int) {
	if wrong {
		f.faults[[5]int{f.block, step, field, value, number}] = api.Fault{Err: err, Line: line}
	}
}

// wantFault returns the first fault of a definition.
func wantFault(s api.Source) api.Fault {
	f := found{map[[5]int]api.Fault{}, -1}
	f.add(!titlePattern.MatchString(s.Title), api.ErrForm, 0, 0, 0, 0, 0)
	for i := range s.Blocks {
		f.block = i
		f.addBlock(s.Blocks[:i], s.Blocks[i])
	}
	f.block++
	for _, kind := range []string{"scan", "scanners", "precincts", "contest", "style", "audit", "privacy"} {
		f.add(!slices.ContainsFunc(s.Blocks, func(b api.Block) bool { return b.Kind == kind }), api.ErrMissing, 0, 0, 0, 0, 0)
	}
	f.addStyles(s)
	places := slices.SortedFunc(maps.Keys(f.faults), func(a, b [5]int) int { return slices.Compare(a[:], b[:]) })
	if len(places) == 0 {
		return api.Fault{}
	}
	return f.faults[places[0]]
}

func (f *found) addBlock(earlier []api.Block, b api.Block) {
	named := b.Kind == "contest" || b.Kind == "style"
	known := named || slices.Contains([]string{"scan", "scanners", "precincts", "audit", "privacy"}, b.Kind)
	kinds, names := 0, map[string]bool{}
	for _, e := range earlier {
		if e.Kind == b.Kind {
			kinds++
			names[e.Name] = true
		}
	}
	f.add(!known, api.ErrName, b.Line, 1, 0, 0, 0)
	f.add(named && b.Name == "", api.ErrMissing, b.Line, 2, 0, 0, 1)
	f.add(named && !wordPattern.MatchString(b.Name), api.ErrForm, b.Line, 2, 0, 0, 2)
	f.add(named && names[b.Name], api.ErrDuplicate, b.Line, 2, 0, 0, 3)
	f.add(b.Kind == "contest" && kinds == 4, api.ErrLength, b.Line, 2, 0, 0, 4)
	f.add(b.Kind == "style" && kinds == 6, api.ErrLength, b.Line, 2, 0, 0, 4)
	f.add(!named && b.Name != "", api.ErrName, b.Line, 2, 0, 0, 5)
	f.add(!named && kinds > 0, api.ErrDuplicate, b.Line, 2, 0, 0, 6)
	keys := map[string]api.Field{}
	for i, field := range b.Fields {
		_, again := keys[field.Key]
		f.add(len(row(b.Kind, field.Key)) == 0, api.ErrName, field.Line, 3, i, 0, 1)
		f.add(again, api.ErrDuplicate, field.Line, 3, i, 0, 2)
		f.addValues(b, field, i)
		keys[field.Key] = field
	}
	f.addFields(b, keys)
}

func (f *found) addValues(b api.Block, field api.Field, i int) {
	form := append(row(b.Kind, field.Key), "", "", "")
	if form[0] == "names" {
		f.add(len(field.Values) == 0, api.ErrLength, field.Line, 3, i, 0, 3)
		for j, v := range field.Values {
			f.add(j >= toNumber(form[1]), api.ErrLength, field.Line, 3, i, j, 4)
			f.add(!namePattern.MatchString(v), api.ErrForm, field.Line, 3, i, j, 5)
			f.add(slices.Index(field.Values, v) < j, api.ErrDuplicate, field.Line, 3, i, j, 6)
		}
		return
	}
	f.add(len(field.Values) != 1, api.ErrLength, field.Line, 3, i, 0, 3)
	v := strings.Join(field.Values, "\n")
	n := toNumber(v)
	switch form[0] {
	case "number":
		f.add(!numberPattern.MatchString(v), api.ErrKind, field.Line, 3, i, 0, 4)
		f.add(n < toNumber(form[1]) || n > toNumber(form[2]), api.ErrRange, field.Line, 3, i, 0, 5)
	case "word":
		f.add(v == "" || !slices.Contains(form[1:], v), api.ErrName, field.Line, 3, i, 0, 4)
	case "fraction":
		f.add(!fractionPattern.MatchString(v), api.ErrKind, field.Line, 3, i, 0, 4)
		risk, ok := new(big.Rat).SetString(v)
		f.add(!ok || risk.Cmp(big.NewRat(1, 1000)) < 0 || risk.Cmp(big.NewRat(1, 2)) > 0, api.ErrRange, field.Line, 3, i, 0, 5)
	case "text":
		f.add(!seedPattern.MatchString(v), api.ErrForm, field.Line, 3, i, 0, 4)
	}
}

func (f *found) addFields(b api.Block, fields map[string]api.Field) {
	only := func(key string) string { return strings.Join(fields[key].Values, "\n") }
	for _, cells := range rows {
		if cells[0] != b.Kind || cells[1] == "digits" && only("method") != "meek" {
			continue
		}
		_, given := fields[cells[1]]
		f.add(!given, api.ErrMissing, b.Line, 4, 0, 0, 0)
	}
	digits, given := fields["digits"]
	f.add(b.Kind == "contest" && given && only("method") != "meek", api.ErrKind, digits.Line, 5, 0, 0, 1)
	f.add(b.Kind == "contest" && only("method") == "irv" && only("seats") != "1", api.ErrRange, fields["seats"].Line, 5, 0, 0, 2)
	f.add(b.Kind == "scan" && toNumber(only("blank")) > toNumber(only("marked")), api.ErrRange, b.Line, 5, 0, 0, 3)
}

func (f *found) addStyles(s api.Source) {
	_, all := namesIn(s)
	earlier := map[string]bool{}
	styles := 0
	for _, b := range s.Blocks {
		if b.Kind != "style" {
			continue
		}
		styles++
		for part, key := range []string{"precincts", "contests"} {
			for _, field := range b.Fields {
				if field.Key != key {
					continue
				}
				for j, v := range field.Values {
					f.add(!slices.Contains(all[part], v), api.ErrName, field.Line, styles, part, j, 1)
					f.add(part == 0 && earlier[v], api.ErrDuplicate, field.Line, styles, part, j, 2)
				}
			}
		}
		for _, field := range b.Fields {
			for _, v := range field.Values {
				earlier[v] = earlier[v] || field.Key == "precincts"
			}
		}
	}
	for _, v := range all[0] {
		f.add(!earlier[v], api.ErrMissing, 0, 1000, 0, 0, 0)
	}
}

// namesIn returns the title, and the names of the precincts and of the contests.
func namesIn(s api.Source) (string, [2][]string) {
	var all [2][]string
	for _, b := range s.Blocks {
		switch b.Kind {
		case "precincts":
			for _, field := range b.Fields {
				all[0] = field.Values
			}
		case "contest":
			all[1] = append(all[1], b.Name)
		}
	}
	return s.Title, all
}

// wantElection returns the election of a valid definition.
func wantElection(s api.Source) api.Election {
	title, all := namesIn(s)
	e := api.Election{Title: title, Precincts: all[0]}
	for _, b := range s.Blocks {
		numbers, lists := map[string]int{}, map[string][]string{}
		for _, field := range b.Fields {
			lists[field.Key] = field.Values
			numbers[field.Key] = toNumber(field.Values[0])
			if cells := row(b.Kind, field.Key); cells[0] == "word" {
				numbers[field.Key] = slices.Index(cells, field.Values[0])
			}
		}
		switch b.Kind {
		case "scan":
			e.Dots, e.Blank, e.Marked = numbers["dots"], numbers["blank"], numbers["marked"]
		case "scanners":
			e.Scanners, e.Batch = numbers["count"], numbers["batch"]
		case "contest":
			e.Contests = append(e.Contests, api.Contest{Name: b.Name, Candidates: lists["candidates"], Method: numbers["method"], Seats: numbers["seats"], Ranks: numbers["ranks"],
				Digits: numbers["digits"], Ties: numbers["ties"], Overvote: numbers["overvote"], Skip: numbers["skip"]})
		case "style":
			style := api.Style{Name: b.Name}
			for _, v := range lists["precincts"] {
				style.Precincts = append(style.Precincts, slices.Index(all[0], v))
			}
			for _, v := range lists["contests"] {
				style.Contests = append(style.Contests, slices.Index(all[1], v))
			}
			e.Styles = append(e.Styles, style)
		case "audit":
			risk, _ := new(big.Rat).SetString(lists["risk"][0])
			e.Risk = api.Ratio{Num: api.Nat{uint32(risk.Num().Uint64())}, Den: api.Nat{uint32(risk.Denom().Uint64())}}
			e.Seed = lists["seed"][0]
		case "privacy":
			e.Cell = numbers["cell"]
		}
	}
	return e
}

// wantText returns the text of the definition of a valid election.
func wantText(e api.Election) string {
	quoted := func(names []string) string {
		var out []string
		for _, name := range names {
			if !wordPattern.MatchString(name) && !numberPattern.MatchString(name) && !fractionPattern.MatchString(name) {
				name = `"` + strings.NewReplacer(`"`, `\"`, `\`, `\\`).Replace(name) + `"`
			}
			out = append(out, name)
		}
		return strings.Join(out, ", ")
	}
	word := func(key string, code int) string { return row("contest", key)[code] }
	text := fmt.Sprintf("election \"%s\" {\n  scan {\n    dots %d;\n    blank %d;\n    marked %d;\n  }\n", strings.NewReplacer(`"`, `\"`, `\`, `\\`).Replace(e.Title), e.Dots, e.Blank, e.Marked)
	text += fmt.Sprintf("  scanners {\n    count %d;\n    batch %d;\n  }\n  precincts {\n    names %s;\n  }\n", e.Scanners, e.Batch, quoted(e.Precincts))
	for _, c := range e.Contests {
		text += fmt.Sprintf("  contest %s {\n    method %s;\n    seats %d;\n    ranks %d;\n", c.Name, word("method", c.Method), c.Seats, c.Ranks)
		if c.Digits > 0 {
			text += fmt.Sprintf("    digits %d;\n", c.Digits)
		}
		text += fmt.Sprintf("    ties %s;\n    overvote %s;\n    skip %s;\n    candidates %s;\n  }\n", word("ties", c.Ties), word("overvote", c.Overvote), word("skip", c.Skip), quoted(c.Candidates))
	}
	for _, s := range e.Styles {
		var precincts, contests []string
		for _, i := range s.Precincts {
			precincts = append(precincts, e.Precincts[i])
		}
		for _, i := range s.Contests {
			contests = append(contests, e.Contests[i].Name)
		}
		text += fmt.Sprintf("  style %s {\n    precincts %s;\n    contests %s;\n  }\n", s.Name, quoted(precincts), quoted(contests))
	}
	return text + fmt.Sprintf("  audit {\n    risk %d/%d;\n    seed %s;\n  }\n  privacy {\n    cell %d;\n  }\n}\n", e.Risk.Num[0], e.Risk.Den[0], quoted([]string{e.Seed}), e.Cell)
}

// wantValid reports whether an election is one that a definition describes.
func wantValid(e api.Election) bool {
	ok := titlePattern.MatchString(e.Title) && seedPattern.MatchString(e.Seed)
	within := func(n, least, most int) { ok = ok && n >= least && n <= most }
	distinct := func(names []string, most int, pattern *regexp.Regexp) {
		within(len(names), 1, most)
		for i, name := range names {
			ok = ok && pattern.MatchString(name) && slices.Index(names, name) == i
		}
	}
	within(e.Dots, 2, 7)
	within(e.Blank, 1, e.Marked)
	within(e.Marked, 1, 100)
	within(e.Scanners, 1, 6)
	within(e.Batch, 1, 16)
	within(e.Cell, 1, 400)
	distinct(e.Precincts, 12, namePattern)
	var contests, styles []string
	for _, c := range e.Contests {
		contests = append(contests, c.Name)
		distinct(c.Candidates, 7, namePattern)
		within(c.Method, 1, 3)
		within(c.Seats, 1, []int{5, 1}[btoi(c.Method == 1)])
		within(c.Ranks, 1, 7)
		within(c.Digits, btoi(c.Method == 2), 6*btoi(c.Method == 2))
		within(c.Ties, 1, 3)
		within(c.Overvote, 1, 2)
		within(c.Skip, 1, 3)
	}
	distinct(contests, 4, wordPattern)
	homes := map[int]int{}
	for _, s := range e.Styles {
		styles = append(styles, s.Name)
		within(len(s.Precincts), 1, 12)
		within(len(s.Contests), 1, 4)
		for _, i := range s.Precincts {
			within(i, 0, len(e.Precincts)-1)
			homes[i]++
			within(homes[i], 1, 1)
		}
		for j, i := range s.Contests {
			within(i, 0, len(e.Contests)-1)
			ok = ok && slices.Index(s.Contests, i) == j
		}
	}
	distinct(styles, 6, wordPattern)
	return ok && len(homes) == len(e.Precincts) && wantRisk(e.Risk)
}

func wantRisk(r api.Ratio) bool {
	if r.Neg || len(r.Num) != 1 || len(r.Den) != 1 {
		return false
	}
	num, den := int64(r.Num[0]), int64(r.Den[0])
	return num > 0 && den <= 999999 && den <= 1000*num && 2*num <= den && new(big.Int).GCD(nil, nil, big.NewInt(num), big.NewInt(den)).Int64() == 1
}

func btoi(b bool) int {
	if b {
		return 1
	}
	return 0
}

// randomElection returns a valid election.
func randomElection(r *rand.Rand) api.Election {
	pick := func(least, most int) int { return least + r.Intn(most-least+1) }
	names := func(most int) []string {
		pool := []string{"a", "b-1", "c", "1/2", "7", "007", "South 1", `"`, `\`, " ", "~", strings.Repeat("x", 24), "stop", "irv", "{", "#"}
		r.Shuffle(len(pool), func(i, j int) { pool[i], pool[j] = pool[j], pool[i] })
		return pool[:pick(1, most)]
	}
	words := func(most int) []string {
		pool := []string{"a", "b-1", "election", strings.Repeat("x", 24), "mayor", "contest", "x9"}
		r.Shuffle(len(pool), func(i, j int) { pool[i], pool[j] = pool[j], pool[i] })
		return pool[:pick(1, most)]
	}
	texts := []string{"", "Test", "8 1 6", `"\`, " ", strings.Repeat("z", 24)}
	e := api.Election{Title: texts[r.Intn(len(texts))], Dots: pick(2, 7), Marked: pick(1, 100), Precincts: names(12), Scanners: pick(1, 6), Batch: pick(1, 16), Cell: pick(1, 400), Seed: texts[r.Intn(len(texts))]}
	e.Blank = pick(1, e.Marked)
	risk := big.NewRat(int64(pick(100, 499999)), 999999-int64(r.Intn(2)))
	if risk.Cmp(big.NewRat(1, 1000)) < 0 || r.Intn(2) > 0 {
		risk = big.NewRat(1, int64(pick(2, 1000)))
	}
	e.Risk = api.Ratio{Num: api.Nat{uint32(risk.Num().Uint64())}, Den: api.Nat{uint32(risk.Denom().Uint64())}}
	for _, name := range words(4) {
		c := api.Contest{Name: name, Candidates: names(7), Method: pick(1, 3), Seats: pick(1, 5), Ranks: pick(1, 7), Digits: pick(1, 6), Ties: pick(1, 3), Overvote: pick(1, 2), Skip: pick(1, 3)}
		if c.Method == api.MethodIRV {
			c.Seats = 1
		}
		c.Digits *= btoi(c.Method == api.MethodMeek)
		e.Contests = append(e.Contests, c)
	}
	order := r.Perm(len(e.Precincts))
	for i, name := range words(min(6, len(order))) {
		e.Styles = append(e.Styles, api.Style{Name: name, Precincts: []int{order[i]}, Contests: r.Perm(len(e.Contests))[:pick(1, len(e.Contests))]})
	}
	for _, precinct := range order[len(e.Styles):] {
		style := &e.Styles[r.Intn(len(e.Styles))]
		style.Precincts = append(style.Precincts, precinct)
	}
	return e
}

// randomSource returns a valid definition, whose blocks and fields have no particular order and lines of their own.
func randomSource(t *testing.T, r *rand.Rand) api.Source {
	s := parse(t, wantText(randomElection(r)))
	r.Shuffle(len(s.Blocks), func(i, j int) { s.Blocks[i], s.Blocks[j] = s.Blocks[j], s.Blocks[i] })
	for i := range s.Blocks {
		fields := s.Blocks[i].Fields
		r.Shuffle(len(fields), func(i, j int) { fields[i], fields[j] = fields[j], fields[i] })
	}
	return s
}

const oddValues = "|0|1|2|3|4|5|6|7|8|16|17|100|101|400|401|02|-1|1/20|1/2|1/1000|1/1001|1/0|0/0|2/3|x|irv|meek|gregory|stop|skip|close|two|lot|forwards|a|b-1|c|mayor|contest|South 1|~|\x7f|A|aaaaaaaaaaaaaaaaaaaaaaaaa|scan|scanners|precincts|style|audit|privacy|dots|blank|marked|count|batch|names|method|seats|ranks|digits|ties|overvote|candidates|contests|risk|seed|cell"

func oddValue(r *rand.Rand) string {
	values := strings.Split(oddValues, "|")
	return values[r.Intn(len(values))]
}

// spoil changes one thing in a definition.
func spoil(r *rand.Rand, s *api.Source) {
	if len(s.Blocks) == 0 || r.Intn(60) == 0 {
		s.Title = strings.Repeat("\n ~a"[r.Intn(4):], 1+r.Intn(70))
		return
	}
	i := r.Intn(len(s.Blocks))
	b := &s.Blocks[i]
	switch r.Intn(10) {
	case 0:
		s.Blocks = slices.Delete(s.Blocks, i, i+1)
	case 1:
		again := *b
		again.Fields = slices.Clone(b.Fields)
		again.Line = 10000 + r.Intn(100)
		if r.Intn(2) > 0 && again.Name != "" {
			again.Name = "new-" + again.Name[:1]
		}
		s.Blocks = slices.Insert(s.Blocks, r.Intn(len(s.Blocks)+1), again)
	case 2:
		b.Name = oddValue(r)
	case 3:
		b.Kind = oddValue(r)
	default:
		spoilField(r, b)
	}
}

func spoilField(r *rand.Rand, b *api.Block) {
	if len(b.Fields) == 0 {
		b.Fields = []api.Field{{Key: oddValue(r), Values: []string{oddValue(r)}, Line: 20000}}
		return
	}
	j := r.Intn(len(b.Fields))
	f := &b.Fields[j]
	f.Values = slices.Clone(f.Values)
	switch r.Intn(9) {
	case 0:
		b.Fields = slices.Delete(b.Fields, j, j+1)
	case 1:
		f.Key = oddValue(r)
	case 2:
		again := *f
		again.Line += 30000
		b.Fields = slices.Insert(b.Fields, r.Intn(len(b.Fields)+1), again)
	case 3:
		f.Values = nil
	case 4, 5:
		f.Values = slices.Insert(f.Values, r.Intn(len(f.Values)+1), oddValue(r))
	default:
		if len(f.Values) > 0 {
			f.Values[r.Intn(len(f.Values))] = oddValue(r)
		}
	}
}

func compareCompile(t *testing.T, s api.Source) api.Fault {
	t.Helper()
	got, fault := Compile(s)
	want := wantFault(s)
	var election api.Election
	if want == (api.Fault{}) {
		election = wantElection(s)
	}
	if fault != want || !reflect.DeepEqual(got, election) {
		t.Fatalf("Compile of %+v is %+v, %v, want %+v, %v", s, got, fault, election, want)
	}
	return fault
}

func TestCompileAgainstReference(t *testing.T) {
	r := rand.New(rand.NewSource(8))
	count := map[api.Errno]int{}
	for range 5000 {
		s := randomSource(t, r)
		compareCompile(t, s)
		for range 1 + r.Intn(3) {
			spoil(r, &s)
		}
		count[compareCompile(t, s).Err]++
	}
	for _, err := range []api.Errno{api.OK, api.ErrName, api.ErrDuplicate, api.ErrRange, api.ErrKind, api.ErrMissing, api.ErrLength, api.ErrForm} {
		if count[err] < 40 {
			t.Errorf("the error %d has %d definitions", err, count[err])
		}
	}
}

// spoilElection changes one part of an election, at any depth.
func spoilElection(r *rand.Rand, v reflect.Value) {
	switch v.Kind() {
	case reflect.Struct:
		spoilElection(r, v.Field(r.Intn(v.NumField())))
	case reflect.Bool:
		v.SetBool(!v.Bool())
	case reflect.String:
		v.SetString(oddValue(r))
	case reflect.Int:
		odd := []int{v.Interface().(int) + 1, v.Interface().(int) - 1, -1, 0, 1, 2, 3, 4, 5, 6, 7, 8, 16, 17, 100, 101, 400, 401, 999999, 1000000, math.MaxInt, math.MinInt}
		v.SetInt(int64(odd[r.Intn(len(odd))]))
	case reflect.Uint32:
		odd := []uint32{0, 1, 2, 3, 4, 5, 20, 40, 500, 1000, 1001, 999999, 1000000, 1000001, math.MaxUint32}
		v.SetUint(uint64(odd[r.Intn(len(odd))]))
	case reflect.Slice:
		spoilList(r, v)
	}
}

func spoilList(r *rand.Rand, v reflect.Value) {
	n := v.Len()
	if n > 0 && r.Intn(5) > 0 {
		spoilElection(r, v.Index(r.Intn(n)))
		return
	}
	switch r.Intn(4) {
	case 0:
		v.SetZero()
	case 1:
		v.Set(v.Slice(0, max(0, n-1)))
	case 2:
		v.Set(reflect.Append(v, reflect.New(v.Type().Elem()).Elem()))
	default:
		if n > 0 {
			v.Set(reflect.Append(v, v.Index(r.Intn(n))))
		}
	}
}

// checkElection compares Valid and Source with the reference, and returns what Valid is.
func checkElection(t *testing.T, e api.Election) bool {
	t.Helper()
	want := wantValid(e)
	s, ok := Source(e)
	if Valid(e) != want || ok != want {
		t.Fatalf("Valid is %v and Source %v, want %v, for %+v", Valid(e), ok, want, e)
	}
	if !want {
		if !reflect.ValueOf(s).IsZero() {
			t.Fatalf("Source of %+v is %+v, want none", e, s)
		}
		return false
	}
	if text, ok := syntax.Print(s); !ok || text != wantText(e) {
		t.Fatalf("Source of %+v is %s, want %s", e, text, wantText(e))
	}
	for _, b := range s.Blocks {
		if b.Line != 0 || slices.ContainsFunc(b.Fields, func(f api.Field) bool { return f.Line != 0 }) {
			t.Fatalf("Source of %+v has lines: %+v", e, s)
		}
	}
	if again, fault := Compile(s); fault != (api.Fault{}) || !reflect.DeepEqual(again, e) {
		t.Fatalf("Compile of Source of %+v is %+v, %v", e, again, fault)
	}
	return true
}

func TestValidAgainstReference(t *testing.T) {
	r := rand.New(rand.NewSource(88))
	valid := 0
	for range 5000 {
		e := randomElection(r)
		if !checkElection(t, e) {
			t.Fatalf("%+v is not valid", e)
		}
		for range 1 + r.Intn(2) {
			spoilElection(r, reflect.ValueOf(&e).Elem())
		}
		valid += btoi(checkElection(t, e))
	}
	if valid < 250 || valid > 4500 {
		t.Errorf("%d changed elections of 5000 are valid", valid)
	}
}
