package rete

import (
	"witan/api"
	"witan/eval"
	"witan/join"
	"witan/ncc"
	"witan/negate"
)

// gate is a condition. Its lefts are the tokens of the node ahead, its rights are
// facts; it tells which rows are gone and which are new. A row is a pair; one of a
// condition that puts no fact behind its left has the right 0, and binds what its
// left does.
type gate interface {
	left(id int, vars []api.Binding) []api.Pair
	// unleft has a left go, and all of its rows.
	unleft(id int)
	right(f api.Fact) (gone, come []api.Pair)
	unright(id int) (gone, come []api.Pair)
}

func newGate(ts []api.Template, c api.Cond) gate {
	switch c.Kind {
	case api.CondIs:
		return joined{join.New(ts, c.Patterns[0])}
	case api.CondNot, api.CondExists:
		return sieve{negate.New(ts, c.Patterns[0], c.Kind == api.CondExists)}
	case api.CondNone:
		return sieve{ncc.New(ts, c.Patterns)}
	}
	return test{c.Test}
}

// joined puts each fact that goes with a left behind it.
type joined struct{ in *join.Join }

func (j joined) left(id int, vars []api.Binding) []api.Pair {
	l, _ := j.in.Left(id, vars)
	return l
}

func (j joined) unleft(id int) { j.in.Unleft(id) }

func (j joined) right(f api.Fact) (gone, come []api.Pair) {
	come, _ = j.in.Right(f)
	return nil, come
}

func (j joined) unright(id int) (gone, come []api.Pair) {
	gone, _ = j.in.Unright(id)
	return gone, nil
}

// lefts are such as are on, or are not, by the facts that go with them.
type lefts interface {
	Left(id int, vars []api.Binding) (bool, api.Errno)
	Right(f api.Fact) ([]int, api.Errno)
	Unleft(id int) (bool, api.Errno)
	Unright(id int) ([]int, api.Errno)
	On(id int) bool
}

// sieve lets the lefts through that are on.
type sieve struct{ in lefts }

func (s sieve) left(id int, vars []api.Binding) []api.Pair {
	on, _ := s.in.Left(id, vars)
	return through(id, on)
}

func (s sieve) unleft(id int) { s.in.Unleft(id) }

func (s sieve) right(f api.Fact) (gone, come []api.Pair) {
	turned, _ := s.in.Right(f)
	return s.sort(turned)
}

func (s sieve) unright(id int) (gone, come []api.Pair) {
	turned, _ := s.in.Unright(id)
	return s.sort(turned)
}

// sort tells those of the lefts that are on no more, and those that are on now.
func (s sieve) sort(turned []int) (gone, come []api.Pair) {
	for _, id := range turned {
		gone = append(gone, through(id, !s.in.On(id))...)
		come = append(come, through(id, s.in.On(id))...)
	}
	return gone, come
}

// test lets the lefts through under which an expression passes. No fact changes that.
type test struct{ x api.Expr }

func (t test) left(id int, vars []api.Binding) []api.Pair {
	return through(id, eval.Passes(eval.Value(t.x, api.Value{}, vars)))
}

func (t test) unleft(int) {}

func (t test) right(api.Fact) (gone, come []api.Pair) { return nil, nil }

func (t test) unright(int) (gone, come []api.Pair) { return nil, nil }

// through tells the row of a left that is let through.
func through(id int, isLet bool) []api.Pair {
	if !isLet {
		return nil
	}
	return []api.Pair{{Left: id}}
}
