package eval

import (
	"witan/api"
	"witan/value"
)

// node is a node of an expression: the one of that number, and the answers of
// all those ahead of it.
type node struct {
	all   api.Expr
	at    int
	ahead []answer
}

// kid tells the number of the node that is expression i; -1, if it is no node
// ahead, or lacks.
func (n node) kid(i int) int {
	kids := n.all[n.at].Kids
	if i >= len(kids) || kids[i] < 0 || kids[i] >= n.at {
		return -1
	}
	return kids[i]
}

// count tells how many expressions there are.
func (n node) count() int { return len(n.all[n.at].Kids) }

// ask tells the answer of expression i: Null, if it is no node ahead.
func (n node) ask(i int) answer {
	k := n.kid(i)
	if k < 0 {
		return answer{}
	}
	return n.ahead[k]
}

// askTruth tells the answer of expression i, if it is a Bool or Null.
func (n node) askTruth(i int) answer {
	a := n.ask(i)
	if a.e == api.OK && !all(goesFor(api.Bool), a.v) {
		return answer{e: api.ErrKind}
	}
	return a
}

// isNull tells whether expression i is the word null itself: a Null that is
// worked out is not.
func (n node) isNull(i int) bool {
	k := n.kid(i)
	return k >= 0 && n.all[k].Op == api.OpLit && n.all[k].V.Kind == api.Null
}

// unless tells the left truth, if that settles it: the right one is not asked
// then. Else it tells what both make.
func (n node) unless(settles bool, both func(l ...api.Value) api.Value) answer {
	left := n.askTruth(0)
	if left.e != api.OK || left.v == value.Truth(settles) {
		return left
	}
	right := n.askTruth(1)
	if right.e != api.OK {
		return right
	}
	return answer{v: both(left.v, right.v)}
}

// not tells the other one of a truth.
func (n node) not() answer {
	a := n.askTruth(0)
	if a.e != api.OK {
		return a
	}
	return answer{v: value.Not(a.v)}
}

// choice tells the answer that the first truth chooses. The other one is not asked.
func (n node) choice() answer {
	first := n.askTruth(0)
	switch {
	case first.e != api.OK || first.v.Kind == api.Null:
		return first
	case first.v == value.Truth(true):
		return n.ask(1)
	}
	return n.ask(2)
}

// fromLeft asks expressions one by one, so many, and has f reckon with them.
// The first error is the answer.
func (n node) fromLeft(count int, f reckoning) answer {
	l := make([]api.Value, count)
	for i := range l {
		a := n.ask(i)
		if a.e != api.OK {
			return a
		}
		l[i] = a.v
	}
	v, e := f(l...)
	return answer{v, e}
}
