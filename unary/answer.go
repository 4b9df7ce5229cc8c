package unary

import (
	"slices"

	"witan/api"
	"witan/eval"
)

// answer is what a node tells: a truth or Null, or an error and a Null.
type answer struct {
	v api.Value
	e api.Errno
}

// Value tells the answer of t's last node for self, where its variables are
// those of vars; Null with an error.
func Value(t api.Tests, self api.Value, vars []api.Binding) (api.Value, api.Errno) {
	last := answer{e: api.ErrArg}
	ahead := make([]answer, 0, len(t))
	for _, n := range t {
		last = answerOf(n, ahead, self, vars)
		ahead = append(ahead, last)
	}
	return last.v, last.e
}

// Pass tells whether the answer is that self passes.
func Pass(t api.Tests, self api.Value, vars []api.Binding) bool {
	return eval.Passes(Value(t, self, vars))
}

// answerOf tells a node's answer, of the answers of all those ahead of it.
func answerOf(n api.Test, ahead []answer, self api.Value, vars []api.Binding) answer {
	switch n.Op {
	case api.TestAny:
		return answer{v: api.Value{Kind: api.Bool, N: 1}}
	case api.TestNot:
		return not(kids(n, ahead))
	case api.TestList:
		return joined(api.OpOr, kids(n, ahead))
	}
	var l []answer
	for _, with := range sides(n) {
		l = append(l, with.held(self, vars))
	}
	if len(l) == 0 {
		return answer{e: api.ErrArg}
	}
	return joined(api.OpAnd, l)
}

// kids tells the answers of those below a node; Null of one that is no node ahead.
func kids(n api.Test, ahead []answer) []answer {
	l := make([]answer, len(n.Kids))
	for i, k := range n.Kids {
		if 0 <= k && k < len(ahead) {
			l[i] = ahead[k]
		}
	}
	return l
}

// held tells layer 10's answer of self and the expression, which stands ahead
// so that its nodes keep their numbers: of no nodes the last one's is -1, that
// of none.
func (with side) held(self api.Value, vars []api.Binding) answer {
	n := len(with.x)
	x := slices.Concat(with.x, api.Expr{{Op: api.OpSelf}, {Op: with.op, Kids: []int{n, n - 1}}})
	return worked(x, self, vars)
}

// not tells layer 10's not of the first answer; of Null, if there is none.
func not(l []answer) answer {
	var first answer
	if len(l) > 0 {
		first = l[0]
	}
	if first.e != api.OK {
		return first
	}
	return worked(api.Expr{literal(first.v), {Op: api.OpNot, Kids: []int{0}}}, api.Value{}, nil)
}

// joined tells layer 10's and, or its or, of answers, from the left; that of a
// single one is its own, and Null is that of none.
func joined(op uint8, l []answer) answer {
	if len(l) == 0 {
		return answer{}
	}
	all := l[0]
	for _, a := range l[1:] {
		all = pair(op, all, a)
	}
	return all
}

// pair tells layer 10's and, or its or, of two answers. It is left to layer 10
// whether an error on the right is met: a node of no op, which tells an error,
// stands for it there.
func pair(op uint8, left, right answer) answer {
	if left.e != api.OK {
		return left
	}
	x := api.Expr{literal(left.v), literal(right.v), {Op: op, Kids: []int{0, 1}}}
	if right.e != api.OK {
		x[1] = api.Node{}
	}
	both := worked(x, api.Value{}, nil)
	if both.e != api.OK {
		return right
	}
	return both
}

// literal is the node of a value.
func literal(v api.Value) api.Node { return api.Node{Op: api.OpLit, V: v} }

// worked tells layer 10's answer of an expression.
func worked(x api.Expr, self api.Value, vars []api.Binding) answer {
	v, e := eval.Value(x, self, vars)
	return answer{v, e}
}
