package eprint

import "witan/api"

// The grammar's levels: an expression stands without parentheses where one of
// its own level, or of a level ahead of that, is read.
const (
	orLevel uint8 = iota
	andLevel
	notLevel
	cmpLevel
	sumLevel
	prodLevel
	minusLevel
	atomLevel
)

// Shapes of nodes' texts. An op that is none has none.
const (
	literal uint8 = 1 + iota
	variable
	prefix
	infix
	call
)

// line is an op's word, with the blank that a prefix has behind it, its shape,
// and its level.
type line struct {
	word         string
	shape, level uint8
}

var lines = [...]line{
	api.OpLit:  {"", literal, atomLevel},
	api.OpVar:  {"?", variable, atomLevel},
	api.OpSelf: {"?", variable, atomLevel},
	api.OpOr:   {"or", infix, orLevel},
	api.OpAnd:  {"and", infix, andLevel},
	api.OpNot:  {"not ", prefix, notLevel},
	api.OpEq:   {"=", infix, cmpLevel},
	api.OpNe:   {"<>", infix, cmpLevel},
	api.OpLt:   {"<", infix, cmpLevel},
	api.OpLe:   {"<=", infix, cmpLevel},
	api.OpGt:   {">", infix, cmpLevel},
	api.OpGe:   {">=", infix, cmpLevel},
	api.OpAdd:  {"+", infix, sumLevel},
	api.OpSub:  {"-", infix, sumLevel},
	api.OpMul:  {"*", infix, prodLevel},
	api.OpDiv:  {"/", infix, prodLevel},
	api.OpNeg:  {"-", prefix, minusLevel},
	api.OpAbs:  {"abs", call, atomLevel},
	api.OpMin:  {"min", call, atomLevel},
	api.OpMax:  {"max", call, atomLevel},
	api.OpMod:  {"mod", call, atomLevel},
	api.OpLen:  {"length", call, atomLevel},
	api.OpUp:   {"upper", call, atomLevel},
	api.OpHas:  {"contains", call, atomLevel},
	api.OpHead: {"starts", call, atomLevel},
	api.OpIf:   {"if", call, atomLevel},
}

// lineOf tells an op's line; one of no shape, if op is none.
func lineOf(op uint8) line {
	if int(op) >= len(lines) {
		return line{}
	}
	return lines[op]
}

// has tells whether a node of that shape may have n expressions; of a call its
// reader asks how many.
func (l line) has(n int) bool {
	switch l.shape {
	case literal, variable:
		return n == 0
	case prefix:
		return n == 1
	case infix:
		return n == 2
	}
	return l.shape == call
}

// left is the level that is read ahead of an infix operator: the reader goes
// to the left first where it takes more than one operator of a level, and of
// comparisons it takes one alone.
func (l line) left() uint8 {
	if l.level == cmpLevel {
		return cmpLevel + 1
	}
	return l.level
}
