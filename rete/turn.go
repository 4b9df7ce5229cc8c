package rete

import (
	"cmp"
	"slices"

	"witan/api"
)

// begin puts the rows in that are there without a fact.
func (n *Net) begin() {
	n.walk(map[int][]int{0: {0}}, func(node) (gone, come []api.Pair) { return nil, nil })
}

// turn has a fact be heard, or be no more, where it passed alpha nodes, and tells the
// matches that are gone and those that are new.
func (n *Net) turn(passed []int, ask func(g gate) (gone, come []api.Pair)) (gone, come []api.Act) {
	return n.walk(map[int][]int{}, func(x node) (gone, come []api.Pair) {
		if !x.hears(passed) {
			return nil, nil
		}
		return ask(x.gate)
	})
}

// walk goes from node to node, those ahead first: of each one lefts go, then facts
// come or go, then lefts come, so that no row comes that does not stay. Fresh are the
// tokens that came at nodes ahead.
func (n *Net) walk(fresh map[int][]int, ask func(x node) (gone, come []api.Pair)) (gone, come []api.Act) {
	gatherGone, gatherCome := n.gather(&gone), n.gather(&come)
	for i := 1; i < len(n.nodes); i++ {
		x := n.nodes[i]
		out, in := ask(x)
		for _, p := range out {
			n.drop(x.rows[place{p.Left, p.Right}], gatherGone)
		}
		for _, left := range fresh[x.Parent] {
			in = append(in, x.gate.left(left, n.vars[left])...)
		}
		for _, p := range in {
			fresh[i] = append(fresh[i], n.put(i, p))
		}
		each(fresh[i], gatherCome)
	}
	sortActs(gone)
	sortActs(come)
	return gone, come
}

// gather tells what puts the matches of a token into a list: one of each rule that
// ends at its node.
func (n *Net) gather(l *[]api.Act) func(token int) {
	return func(token int) {
		t, _ := n.tokens.Get(token)
		for _, r := range n.nodes[t.Node].rules {
			*l = append(*l, api.Act{Rule: r, Tuple: n.tokens.Tuple(token), Salience: n.rules[r].salience})
		}
	}
}

func each(tokens []int, do func(token int)) {
	for _, t := range tokens {
		do(t)
	}
}

// put tells the token of a row that comes.
func (n *Net) put(i int, p api.Pair) int {
	id, _ := n.tokens.Add(p.Left, i, p.Right)
	if p.Right == 0 {
		p.Vars = n.vars[p.Left]
	}
	n.nodes[i].rows[place{p.Left, p.Right}] = id
	n.vars[id] = p.Vars
	return id
}

// drop has a token go, and all below it. The matches are gathered ahead of that: of
// what is gone the arena tells no tuples.
func (n *Net) drop(token int, gather func(token int)) {
	each(n.from(token), gather)
	for _, t := range n.tokens.Remove(token) {
		x := n.nodes[t.Node]
		delete(x.rows, place{t.Parent, t.Fact})
		delete(n.vars, t.ID)
		for _, i := range x.below {
			n.nodes[i].gate.unleft(t.ID)
		}
	}
}

// from tells a token and all below it.
func (n *Net) from(token int) []int {
	l := []int{token}
	for i := 0; i < len(l); i++ {
		l = append(l, n.tokens.Kids(l[i])...)
	}
	return l
}

// token tells the token at which a way along nodes ends with a tuple, and true; false,
// if there is none.
func (n *Net) token(nodes, tuple []int) (int, bool) {
	token := 0
	for _, i := range nodes {
		x := n.nodes[i]
		at := place{left: token}
		if x.Cond.Kind == api.CondIs && len(tuple) > 0 {
			at.right, tuple = tuple[0], tuple[1:]
		}
		next, ok := x.rows[at]
		if !ok {
			return 0, false
		}
		token = next
	}
	return token, len(tuple) == 0
}

func sortActs(l []api.Act) {
	slices.SortFunc(l, func(a, b api.Act) int {
		return cmp.Or(cmp.Compare(a.Rule, b.Rule), slices.Compare(a.Tuple, b.Tuple))
	})
}
