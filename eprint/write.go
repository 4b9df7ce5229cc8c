package eprint

import (
	"strings"

	"witan/api"
	"witan/vtext"
)

// part is an expression that is written: its level and its text.
type part struct {
	level uint8
	text  string
}

// write tells the text of t, if t may be; of what may not be some text, or
// false. Kids are counted alone: in what is read of a text they are always the
// last ones that stand below none yet, and so no text is told of a node twice.
func write(t api.Expr) (string, bool) {
	if len(t) > api.MaxNodes {
		return "", false
	}
	var parts []part // what stands below none yet, from the left to the right
	for i := range len(t) {
		l := lineOf(t[i].Op)
		first := len(parts) - len(t[i].Kids)
		if !isNode(t[i], l) || first < 0 {
			return "", false
		}
		s := l.textOf(t[i], parts[first:])
		parts = append(parts[:first], part{l.level, s})
	}
	if len(parts) != 1 {
		return "", false
	}
	return parts[0].text, true
}

// isNode tells whether n can be written as its op's line says. A name of any
// length would stand in the text of each node above.
func isNode(n api.Node, l line) bool {
	return l.has(len(n.Kids)) && len(n.Name) <= api.MaxName
}

// textOf tells a node's text, of its line and what is written of its expressions.
func (l line) textOf(n api.Node, kids []part) string {
	switch l.shape {
	case literal:
		return vtext.Text(n.V)
	case variable:
		return l.word + n.Name
	case prefix:
		return l.word + kids[0].at(l.level)
	case infix:
		return kids[0].at(l.left()) + " " + l.word + " " + kids[1].at(l.level+1)
	}
	return l.word + "(" + listOf(kids) + ")"
}

// at tells the text of p where an expression of that level is read.
func (p part) at(level uint8) string {
	if p.level < level {
		return "(" + p.text + ")"
	}
	return p.text
}

// listOf tells a call's expressions, which no level keeps apart.
func listOf(kids []part) string {
	var l []string
	for _, p := range kids {
		l = append(l, p.text)
	}
	return strings.Join(l, ", ")
}
