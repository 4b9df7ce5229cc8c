package etype

import "witan/api"

// call is what each expression of a call goes for, and the call's own kind.
type call struct{ asked, kind uint8 }

// calls tells those ops that ask one kind of all their expressions; and, or
// and not are to kinds what calls are.
func calls() map[uint8]call {
	return map[uint8]call{
		api.OpOr:   {api.Bool, api.Bool},
		api.OpAnd:  {api.Bool, api.Bool},
		api.OpNot:  {api.Bool, api.Bool},
		api.OpMod:  {api.Int, api.Int},
		api.OpLen:  {api.Str, api.Int},
		api.OpUp:   {api.Str, api.Str},
		api.OpHas:  {api.Str, api.Bool},
		api.OpHead: {api.Str, api.Bool},
	}
}

// opKind tells the kind of what an op makes of expressions of those kinds;
// api.ErrKind, if it takes none such.
func opKind(op uint8, kids []uint8) (uint8, api.Errno) {
	kind, ok := madeOf(op, kids)
	if !ok {
		return api.Null, api.ErrKind
	}
	return kind, api.OK
}

// madeOf tells an op's kind, and whether what it asks of its expressions is so.
func madeOf(op uint8, kids []uint8) (uint8, bool) {
	if c, ok := calls()[op]; ok {
		return c.kind, all(goesFor(c.asked), kids...)
	}
	switch op {
	case api.OpEq, api.OpNe:
		return api.Bool, alike(kids[0], kids[1]) || all(isNumber, kids...)
	case api.OpLt, api.OpLe, api.OpGt, api.OpGe:
		return api.Bool, all(isNumber, kids...) || all(goesFor(api.Str), kids...)
	case api.OpIf:
		first, second, third := kids[0], kids[1], kids[2]
		return either(second, third), all(goesFor(api.Bool), first) && alike(second, third)
	}
	return sumKind(kids), all(isNumber, kids...)
}

// all tells whether each of the kinds is what is asked.
func all(is func(kind uint8) bool, kinds ...uint8) bool {
	for _, k := range kinds {
		if !is(k) {
			return false
		}
	}
	return true
}

// goesFor tells what asks whether a kind goes for the one that is asked.
func goesFor(asked uint8) func(kind uint8) bool {
	return func(kind uint8) bool { return kind == asked || kind == api.Null }
}

// isNumber tells whether a kind is a number's, or goes for one.
func isNumber(kind uint8) bool {
	return kind == api.Null || kind == api.Int || kind == api.Dec
}

// alike tells whether one of two kinds goes for the other one.
func alike(a, b uint8) bool {
	return goesFor(b)(a) || goesFor(a)(b)
}

// either tells the kind of what is one of two that are alike.
func either(a, b uint8) uint8 {
	if a == api.Null {
		return b
	}
	return a
}

// sumKind tells the kind of what is worked out of numbers: a Dec makes a Dec
// of it, and what is null alone stays Null.
func sumKind(kids []uint8) uint8 {
	kind := api.Null
	for _, k := range kids {
		if k == api.Dec || kind == api.Null {
			kind = k
		}
	}
	return kind
}
