package unary

import (
	"strings"

	"witan/api"
	"witan/eprint"
)

// Text tells the text of t; api.ErrForm, if t may not be.
func Text(t api.Tests) (string, api.Errno) {
	s := write(t)
	if !isReadAs(s, t) {
		return "", api.ErrForm
	}
	return s, api.OK
}

// May tells whether t has a text.
func May(t api.Tests) bool {
	_, e := Text(t)
	return e == api.OK
}

// isReadAs leaves to the reader what is asked of a text: whether its nodes,
// its open not and its bytes are not too many, and whether what is told of t's
// nodes is just what is read.
func isReadAs(s string, t api.Tests) bool {
	l, _, e := Read(s)
	return e == api.OK && Same(l, t)
}

// write tells the text of t, if t may be; else some text, or none, that is not
// read as t. Kids are counted alone: in what is read of a text they are always
// the last ones that stand below none yet, and so no text is told of a node
// twice.
func write(t api.Tests) string {
	if len(t) > api.MaxTests {
		return ""
	}
	var parts []string // what stands below none yet, from the left to the right
	for _, n := range t {
		first := len(parts) - len(n.Kids)
		if first < 0 {
			return ""
		}
		s := nodeText(n, strings.Join(parts[first:], ", "))
		parts = append(parts[:first], s)
	}
	if len(parts) != 1 {
		return ""
	}
	return parts[0]
}

// nodeText tells a node's text, of what is written of those below it.
func nodeText(n api.Test, below string) string {
	switch n.Op {
	case api.TestAny:
		return "-"
	case api.TestEq:
		return equalText(n.A)
	case api.TestIn:
		return rangeText(n)
	case api.TestNot:
		return "not(" + below + ")"
	case api.TestList:
		return below
	}
	return comparisonOf(n.Op).sign + " " + exprText(n.A)
}

// equalText tells the text of what self is to be equal to: with the sign only
// where it would not be read as that without.
func equalText(a api.Expr) string {
	s := exprText(a)
	if !isReadAs(s, api.Tests{{Op: api.TestEq, A: a}}) {
		s = "= " + s
	}
	return s
}

// rangeText tells the text of a range.
func rangeText(n api.Test) string {
	low, high := "[", "]"
	if n.Low {
		low = "("
	}
	if n.High {
		high = ")"
	}
	return low + exprText(n.A) + " .. " + exprText(n.B) + high
}

// exprText tells an expression's text; none of what may not be: around it
// nothing is read then.
func exprText(x api.Expr) string {
	s, _ := eprint.Text(x)
	return s
}
