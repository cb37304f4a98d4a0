package schema

import (
	"slices"

	"election/api"
	"election/ratio"
)

// check returns the first fault of a definition.
func check(s api.Source) api.Fault {
	if !isText(s.Title, maxTitle) {
		return api.Fault{Err: api.ErrForm}
	}
	for i, b := range s.Blocks {
		if fault := checkBlock(s.Blocks[:i], b); fault.Err != api.OK {
			return fault
		}
	}
	for _, rule := range blockRules {
		if len(ofKind(s.Blocks, rule.kind)) == 0 {
			return api.Fault{Err: api.ErrMissing}
		}
	}
	return checkStyles(s.Blocks)
}

// checkBlock returns the first fault of a block that follows earlier ones, apart from what depends on later ones.
func checkBlock(earlier []api.Block, b api.Block) api.Fault {
	if err := checkHead(earlier, b); err != api.OK {
		return api.Fault{Err: err, Line: b.Line}
	}
	for i, f := range b.Fields {
		if err := checkField(b.Kind, b.Fields[:i], f); err != api.OK {
			return api.Fault{Err: err, Line: f.Line}
		}
	}
	if lacksField(b) {
		return api.Fault{Err: api.ErrMissing, Line: b.Line}
	}
	return checkTogether(b)
}

// checkHead examines the kind and the name of a block.
func checkHead(earlier []api.Block, b api.Block) api.Errno {
	rule, ok := blockRuleOf(b.Kind)
	if !ok {
		return api.ErrName
	}
	same := ofKind(earlier, b.Kind)
	if rule.named {
		return checkNamed(rule, same, b.Name)
	}
	if b.Name != "" {
		return api.ErrName
	}
	if len(same) >= rule.most {
		return api.ErrDuplicate
	}
	return api.OK
}

// checkNamed examines the name of a block that follows others of the same kind.
func checkNamed(rule blockRule, same []api.Block, name string) api.Errno {
	if name == "" {
		return api.ErrMissing
	}
	if len(name) > api.MaxName || !isWord(name) {
		return api.ErrForm
	}
	if slices.Contains(namesOf(same), name) {
		return api.ErrDuplicate
	}
	if len(same) >= rule.most {
		return api.ErrLength
	}
	return api.OK
}

// checkField examines a field that follows earlier ones of its block.
func checkField(kind string, earlier []api.Field, f api.Field) api.Errno {
	rule, ok := fieldRuleOf(kind, f.Key)
	if !ok {
		return api.ErrName
	}
	if slices.ContainsFunc(earlier, func(other api.Field) bool { return other.Key == f.Key }) {
		return api.ErrDuplicate
	}
	if rule.form == formNames {
		return checkNames(rule, f.Values)
	}
	if len(f.Values) != 1 {
		return api.ErrLength
	}
	return checkValue(rule, f.Values[0])
}

func checkNames(rule fieldRule, names []string) api.Errno {
	if len(names) < rule.least {
		return api.ErrLength
	}
	for i, name := range names {
		if i >= rule.most {
			return api.ErrLength
		}
		if !isName(name) {
			return api.ErrForm
		}
		if slices.Contains(names[:i], name) {
			return api.ErrDuplicate
		}
	}
	return api.OK
}

// checkValue examines the only value of a field.
func checkValue(rule fieldRule, value string) api.Errno {
	switch rule.form {
	case formNumber:
		return checkNumber(rule, value)
	case formChoice:
		if codeOf(rule.key, value) == 0 {
			return api.ErrName
		}
	case formRisk:
		return checkRisk(value)
	case formSeed:
		if !isText(value, maxSeed) {
			return api.ErrForm
		}
	}
	return api.OK
}

func checkNumber(rule fieldRule, value string) api.Errno {
	if !isNumber(value) {
		return api.ErrKind
	}
	if n := toInt(value); n < rule.least || n > rule.most {
		return api.ErrRange
	}
	return api.OK
}

func checkRisk(value string) api.Errno {
	if !isFraction(value) {
		return api.ErrKind
	}
	// A fraction with the denominator 0 becomes 0, which is out of the range.
	risk := toRatio(value)
	if ratio.Cmp(risk, ratio.Frac(1, minRiskDen)) < 0 || ratio.Cmp(risk, ratio.Frac(1, maxRiskDen)) > 0 {
		return api.ErrRange
	}
	return api.OK
}

// lacksField reports whether a block lacks a field that is required.
func lacksField(b api.Block) bool {
	for _, rule := range fieldRules {
		optional := rule.key == "digits" && code(b, "method") != api.MethodMeek
		if rule.kind == b.Kind && !optional && !has(b, rule.key) {
			return true
		}
	}
	return false
}

// checkTogether examines fields of a complete block that depend on one another.
func checkTogether(b api.Block) api.Fault {
	switch b.Kind {
	case "contest":
		if has(b, "digits") && code(b, "method") != api.MethodMeek {
			return api.Fault{Err: api.ErrKind, Line: fieldOf(b, "digits").Line}
		}
		if code(b, "method") == api.MethodIRV && number(b, "seats") > 1 {
			return api.Fault{Err: api.ErrRange, Line: fieldOf(b, "seats").Line}
		}
	case "scan":
		if number(b, "blank") > number(b, "marked") {
			return api.Fault{Err: api.ErrRange, Line: b.Line}
		}
	}
	return api.Fault{}
}

// checkStyles returns the first fault in what the styles say about precincts and contests. All blocks are complete.
func checkStyles(blocks []api.Block) api.Fault {
	precincts, contests := precinctNames(blocks), contestNames(blocks)
	var used []string
	for _, style := range ofKind(blocks, "style") {
		field := fieldOf(style, "precincts")
		for _, name := range field.Values {
			if !slices.Contains(precincts, name) {
				return api.Fault{Err: api.ErrName, Line: field.Line}
			}
			if slices.Contains(used, name) {
				return api.Fault{Err: api.ErrDuplicate, Line: field.Line}
			}
			used = append(used, name)
		}
		field = fieldOf(style, "contests")
		for _, name := range field.Values {
			if !slices.Contains(contests, name) {
				return api.Fault{Err: api.ErrName, Line: field.Line}
			}
		}
	}
	if len(used) < len(precincts) {
		return api.Fault{Err: api.ErrMissing}
	}
	return api.Fault{}
}
