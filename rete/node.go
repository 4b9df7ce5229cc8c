package rete

import (
	"slices"

	"witan/api"
	"witan/plan"
)

// node is a node of the plan: which nodes stand below it, which rules end there, and
// its rows' tokens. The first one, which is no condition, has no gate.
type node struct {
	api.PlanNode
	gate  gate
	below []int
	rules []int
	rows  map[place]int
}

// place is where a row stands: a token of the node ahead, and the fact behind it (0:
// none).
type place struct{ left, right int }

// newNode tells a plan's node i without rows, but for the first one, whose empty row
// is always there.
func newNode(x api.Plan, i int) node {
	n := node{PlanNode: x.Nodes[i], below: plan.Below(x, i), rows: map[place]int{}}
	if i == 0 {
		n.rows[place{left: -1}] = 0
	} else {
		n.gate = newGate(x.Templates, n.Cond)
	}
	for r, end := range x.Ends {
		if end == i {
			n.rules = append(n.rules, r)
		}
	}
	return n
}

// hears tells whether a fact is a right of the node that passed some alpha nodes.
func (n node) hears(passed []int) bool {
	return slices.ContainsFunc(n.Alphas, func(a int) bool { return slices.Contains(passed, a) })
}
