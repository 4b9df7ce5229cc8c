package plan

import (
	"slices"

	"witan/api"
	"witan/expr"
	"witan/own"
	"witan/passes"
	"witan/template"
	"witan/unary"
)

// A builder builds a plan, whose templates are there, node by node.
type builder struct{ plan api.Plan }

// placed tells the place of the first part of l of which is holds; if there is
// none, it puts the one that fresh tells behind all that are.
func placed[T any](l *[]T, is func(T) bool, fresh func() T) int {
	if i := slices.IndexFunc(*l, is); i >= 0 {
		return i
	}
	x := fresh()
	*l = append(*l, x)
	return len(*l) - 1
}

// node tells the node of a condition below another one.
func (b *builder) node(parent int, c api.Cond) int {
	return placed(&b.plan.Nodes, func(n api.PlanNode) bool {
		return n.Parent == parent && alike(n.Cond, c)
	}, func() api.PlanNode {
		n := api.PlanNode{Parent: parent, Cond: own.Cond(c)}
		for _, p := range c.Patterns {
			n.Alphas = append(n.Alphas, b.pattern(p))
		}
		return n
	})
}

// alike tells whether two conditions are.
func alike(a, b api.Cond) bool {
	return a.Kind == b.Kind && slices.EqualFunc(a.Patterns, b.Patterns, passes.Alike) && expr.Same(a.Test, b.Test)
}

// pattern tells a pattern's alpha node.
func (b *builder) pattern(p api.Pattern) int {
	t := template.Find(b.plan.Templates, p.T)
	n := b.alpha(api.AlphaNode{Parent: -1, T: t, Slot: -1})
	for _, s := range p.Slots {
		if passes.Alone(s.Test) {
			n = b.alpha(api.AlphaNode{Parent: n, T: t, Slot: template.Slot(b.plan.Templates[t], s.Slot), Test: s.Test})
		}
	}
	return n
}

// alpha tells the place of an alpha node that is as x.
func (b *builder) alpha(x api.AlphaNode) int {
	return placed(&b.plan.Alphas, func(n api.AlphaNode) bool {
		return n.Parent == x.Parent && n.T == x.T && n.Slot == x.Slot && unary.Same(n.Test, x.Test)
	}, func() api.AlphaNode {
		x.Test = own.Tests(x.Test)
		return x
	})
}
