package template

import (
	"witan/api"
	"witan/value"
)

// Name tells whether s is a name: one of layer 2's, and no word that is kept.
func Name(s string) bool {
	return nameAsker()(s)
}

// nameAsker tells what asks whether a text is a name. It has the words that
// are kept with it, so that they are laid out once for all names of one call.
func nameAsker() func(s string) bool {
	kept := keptWords()
	return func(s string) bool {
		_, isKept := kept[s]
		// Layer 2's names are what a symbol may be.
		return !isKept && value.May(api.Value{Kind: api.Sym, S: s})
	}
}

func keptWords() map[string]struct{} {
	return map[string]struct{}{
		"true": {}, "false": {}, "null": {},
		"and": {}, "or": {}, "not": {}, "if": {},
		"abs": {}, "min": {}, "max": {}, "mod": {}, "length": {}, "upper": {}, "contains": {}, "starts": {},
		"template": {}, "rule": {}, "when": {}, "then": {}, "end": {}, "exists": {}, "test": {},
		"assert": {}, "logical": {}, "modify": {}, "retract": {}, "halt": {},
		"table": {}, "in": {}, "out": {}, "row": {},
	}
}
