// Package own copies what is handed in, so that what is told stands in memory of
// its own.
package own

import "witan/api"

// List tells a list with the same parts. It is not cloned by slices.Clone, which
// keeps hold of the array behind a list without parts.
func List[T any](l []T) []T { return append([]T(nil), l...) }

// Templates tells templates, each with slots of its own.
func Templates(l []api.Template) []api.Template {
	l = List(l)
	for i, t := range l {
		l[i].Slots = List(t.Slots)
	}
	return l
}

// Cond tells a condition, with patterns and a test of its own.
func Cond(c api.Cond) api.Cond {
	c.Patterns, c.Test = List(c.Patterns), Expr(c.Test)
	for i, p := range c.Patterns {
		c.Patterns[i] = Pattern(p)
	}
	return c
}

// Pattern tells a pattern, with slots' tests of its own.
func Pattern(p api.Pattern) api.Pattern {
	p.Slots = List(p.Slots)
	for i, s := range p.Slots {
		p.Slots[i].Test = Tests(s.Test)
	}
	return p
}

// Tests tells tests, each with expressions of its own.
func Tests(l api.Tests) api.Tests {
	l = List(l)
	for i, t := range l {
		l[i].A, l[i].B, l[i].Kids = Expr(t.A), Expr(t.B), List(t.Kids)
	}
	return l
}

// Expr tells an expression.
func Expr(x api.Expr) api.Expr {
	x = List(x)
	for i, n := range x {
		x[i].Kids = List(n.Kids)
	}
	return x
}
