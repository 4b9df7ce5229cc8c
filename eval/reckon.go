package eval

import (
	"strings"

	"witan/api"
	"witan/num"
	"witan/value"
)

// reckoning tells a value of values, or an error.
type reckoning func(l ...api.Value) (api.Value, api.Errno)

// reckoned tells the answer of an op that asks all its expressions, from the left.
func (n node) reckoned(op uint8) answer {
	switch op {
	case api.OpEq:
		return n.fromLeft(2, n.equal(true))
	case api.OpNe:
		return n.fromLeft(2, n.equal(false))
	case api.OpLt:
		return n.fromLeft(2, ordered(func(c int) bool { return c < 0 }))
	case api.OpLe:
		return n.fromLeft(2, ordered(func(c int) bool { return c <= 0 }))
	case api.OpGt:
		return n.fromLeft(2, ordered(func(c int) bool { return c > 0 }))
	case api.OpGe:
		return n.fromLeft(2, ordered(func(c int) bool { return c >= 0 }))
	case api.OpAdd:
		return n.fromLeft(2, ofTwo(value.Add))
	case api.OpSub:
		return n.fromLeft(2, ofTwo(value.Sub))
	case api.OpMul:
		return n.fromLeft(2, ofTwo(value.Mul))
	case api.OpDiv:
		return n.fromLeft(2, ofTwo(value.Div))
	case api.OpNeg:
		return n.fromLeft(1, ofOne(value.Neg))
	case api.OpAbs:
		return n.fromLeft(1, ofOne(abs))
	case api.OpMin:
		return n.fromLeft(n.count(), value.Least)
	case api.OpMax:
		return n.fromLeft(n.count(), value.Most)
	case api.OpMod:
		return n.fromLeft(2, ofKind(api.Int, ofTwo(mod)))
	case api.OpLen:
		return n.fromLeft(1, ofKind(api.Str, ofOne(length)))
	case api.OpUp:
		return n.fromLeft(1, ofKind(api.Str, ofOne(upper)))
	case api.OpHas:
		return n.fromLeft(2, ofKind(api.Str, ofTexts(strings.Contains)))
	case api.OpHead:
		return n.fromLeft(2, ofKind(api.Str, ofTexts(strings.HasPrefix)))
	}
	return answer{e: api.ErrArg}
}

// ofOne makes a reckoning of what is told of one value.
func ofOne(f func(a api.Value) (api.Value, api.Errno)) reckoning {
	return func(l ...api.Value) (api.Value, api.Errno) { return f(l[0]) }
}

// ofTwo makes a reckoning of what is told of two values.
func ofTwo(f func(a, b api.Value) (api.Value, api.Errno)) reckoning {
	return func(l ...api.Value) (api.Value, api.Errno) { return f(l[0], l[1]) }
}

// ofTexts makes a reckoning of what is asked of two texts.
func ofTexts(is func(s, part string) bool) reckoning {
	return func(l ...api.Value) (api.Value, api.Errno) {
		return value.Truth(is(l[0].S, l[1].S)), api.OK
	}
}

// ofKind makes of a reckoning one that is Null, if one of its values is, and
// that takes no values of other kinds.
func ofKind(kind uint8, f reckoning) reckoning {
	return func(l ...api.Value) (api.Value, api.Errno) {
		if !all(goesFor(kind), l...) {
			return api.Value{}, api.ErrKind
		}
		if !all(isThere, l...) {
			return api.Value{}, api.OK
		}
		return f(l...)
	}
}

// all tells whether each of the values is what is asked.
func all(is func(v api.Value) bool, l ...api.Value) bool {
	for _, v := range l {
		if !is(v) {
			return false
		}
	}
	return true
}

// goesFor tells what asks whether a value is of that kind, or Null.
func goesFor(kind uint8) func(v api.Value) bool {
	return func(v api.Value) bool { return v.Kind == kind || !isThere(v) }
}

// goesForNumber tells whether a value is a number, or Null.
func goesForNumber(v api.Value) bool {
	return v.Kind == api.Int || v.Kind == api.Dec || !isThere(v)
}

// isThere tells whether a value is not Null.
func isThere(v api.Value) bool { return v.Kind != api.Null }

// equal makes what asks whether two values are equal, or are not. The word
// null asks of the other one whether it is Null, and never tells Null.
func (n node) equal(wanted bool) reckoning {
	return func(l ...api.Value) (api.Value, api.Errno) {
		if n.isNull(0) || n.isNull(1) {
			return value.Truth((l[0].Kind == l[1].Kind) == wanted), api.OK
		}
		return compared(l[0], l[1], func(c int) bool { return (c == 0) == wanted })
	}
}

// ordered makes what asks how two numbers, or two texts, are ordered.
func ordered(is func(c int) bool) reckoning {
	return func(l ...api.Value) (api.Value, api.Errno) {
		if !all(goesForNumber, l...) && !all(goesFor(api.Str), l...) {
			return api.Value{}, api.ErrKind
		}
		return compared(l[0], l[1], is)
	}
}

// compared tells what is asked of how two values compare; Null, if one is.
func compared(a, b api.Value, is func(c int) bool) (api.Value, api.Errno) {
	if !all(isThere, a, b) {
		return api.Value{}, api.OK
	}
	c, ok := value.Compare(a, b)
	if !ok {
		return api.Value{}, api.ErrKind
	}
	return value.Truth(is(c)), api.OK
}

// abs tells a number without its sign; Null of Null.
func abs(a api.Value) (api.Value, api.Errno) {
	if !goesForNumber(a) {
		return api.Value{}, api.ErrKind
	}
	if a.N < 0 {
		return value.Neg(a)
	}
	return a, api.OK
}

// mod tells the rest of two Ints.
func mod(a, b api.Value) (api.Value, api.Errno) {
	return whole(num.Mod(a.N, b.N))
}

// length tells how many bytes a text has.
func length(a api.Value) (api.Value, api.Errno) {
	return whole(int64(len(a.S)), api.OK)
}

// whole tells an Int, or an error and a Null.
func whole(n int64, e api.Errno) (api.Value, api.Errno) {
	if e != api.OK {
		return api.Value{}, e
	}
	return api.Value{Kind: api.Int, N: n}, api.OK
}

// upper tells a text with its small letters made great ones: those from a to z alone.
func upper(a api.Value) (api.Value, api.Errno) {
	great := func(c rune) rune {
		if 'a' <= c && c <= 'z' {
			return c - 'a' + 'A'
		}
		return c
	}
	return api.Value{Kind: api.Str, S: strings.Map(great, a.S)}, api.OK
}
