package schema

import (
	"slices"

	"election/api"
)

const (
	maxTitle = 60
	maxSeed  = 24
	// The risk limit is from 1 / minRiskDen to 1 / maxRiskDen.
	minRiskDen = 1000
	maxRiskDen = 2
)

// Forms of the values that a field has.
const (
	formNumber = iota
	formChoice
	formNames
	formRisk
	formSeed
)

// blockRule says how many blocks of a kind there may be, and whether they have names.
type blockRule struct {
	kind  string
	most  int
	named bool
}

var blockRules = [...]blockRule{
	{"scan", 1, false},
	{"scanners", 1, false},
	{"precincts", 1, false},
	{"contest", api.MaxContests, true},
	{"style", api.MaxStyles, true},
	{"audit", 1, false},
	{"privacy", 1, false},
}

// fieldRule says what a field of a kind of blocks has: least and most are the limits of a number, and those of the length of a list.
type fieldRule struct {
	kind, key   string
	form        int
	least, most int
}

var fieldRules = [...]fieldRule{
	{"scan", "dots", formNumber, 2, 7},
	{"scan", "blank", formNumber, 1, 100},
	{"scan", "marked", formNumber, 1, 100},
	{"scanners", "count", formNumber, 1, api.MaxScanners},
	{"scanners", "batch", formNumber, 1, api.MaxBatch},
	{"precincts", "names", formNames, 1, api.MaxPrecincts},
	{"contest", "method", formChoice, 0, 0},
	{"contest", "seats", formNumber, 1, api.MaxSeats},
	{"contest", "ranks", formNumber, 1, api.MaxRanks},
	{"contest", "digits", formNumber, 1, api.MaxDigits},
	{"contest", "ties", formChoice, 0, 0},
	{"contest", "overvote", formChoice, 0, 0},
	{"contest", "skip", formChoice, 0, 0},
	{"contest", "candidates", formNames, 1, api.MaxCandidates},
	{"style", "precincts", formNames, 1, api.MaxPrecincts},
	{"style", "contests", formNames, 1, api.MaxContests},
	{"audit", "risk", formRisk, 0, 0},
	{"audit", "seed", formSeed, 0, 0},
	{"privacy", "cell", formNumber, 1, api.MaxSheets},
}

func blockRuleOf(kind string) (blockRule, bool) {
	for _, rule := range blockRules {
		if rule.kind == kind {
			return rule, true
		}
	}
	return blockRule{}, false
}

func fieldRuleOf(kind, key string) (fieldRule, bool) {
	for _, rule := range fieldRules {
		if rule.kind == kind && rule.key == key {
			return rule, true
		}
	}
	return fieldRule{}, false
}

// words returns the words of a choice by their codes, which are not 0.
func words(key string) []string {
	switch key {
	case "method":
		return []string{api.MethodIRV: "irv", api.MethodMeek: "meek", api.MethodGregory: "gregory"}
	case "ties":
		return []string{api.TieBackwards: "backwards", api.TieForwards: "forwards", api.TieLot: "lot"}
	case "overvote":
		return []string{api.OvervoteStop: "stop", api.OvervoteSkip: "skip"}
	case "skip":
		return []string{api.SkipClose: "close", api.SkipStop: "stop", api.SkipTwo: "two"}
	}
	return nil
}

// codeOf returns the code of a word of a choice, or 0 if it is not one of the words.
func codeOf(key, word string) int { return max(0, slices.Index(words(key), word)) }
