package expr

import "witan/api"

// call is a call's op, and how many expressions it has at least and at most.
type call struct {
	op          uint8
	least, most int
}

// calls tells the calls by their words.
func calls() map[string]call {
	return map[string]call{
		"abs":      {api.OpAbs, 1, 1},
		"min":      {api.OpMin, 1, api.MaxArgs},
		"max":      {api.OpMax, 1, api.MaxArgs},
		"mod":      {api.OpMod, 2, 2},
		"length":   {api.OpLen, 1, 1},
		"upper":    {api.OpUp, 1, 1},
		"contains": {api.OpHas, 2, 2},
		"starts":   {api.OpHead, 2, 2},
		"if":       {api.OpIf, 3, 3},
	}
}

// infixOp tells an infix operator's op, and the level at which it stands; op 0
// of any other word.
func infixOp(word string) (op uint8, level int) {
	switch word {
	case "or":
		return api.OpOr, orLevel
	case "and":
		return api.OpAnd, andLevel
	case "=":
		return api.OpEq, cmpLevel
	case "<>":
		return api.OpNe, cmpLevel
	case "<":
		return api.OpLt, cmpLevel
	case "<=":
		return api.OpLe, cmpLevel
	case ">":
		return api.OpGt, cmpLevel
	case ">=":
		return api.OpGe, cmpLevel
	case "+":
		return api.OpAdd, sumLevel
	case "-":
		return api.OpSub, sumLevel
	case "*":
		return api.OpMul, prodLevel
	case "/":
		return api.OpDiv, prodLevel
	}
	return 0, orLevel
}
