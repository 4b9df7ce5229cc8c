package check

import (
	"slices"

	"witan/api"
	"witan/etype"
	"witan/template"
	"witan/unary"
)

// scope is what can be named at a place of a rule.
type scope struct {
	variables
	templates []api.Template
	there     []api.Pattern // the patterns that are there, ahead of that place
}

// inner tells a scope of its own: what is bound in it is not bound in s.
func (s *scope) inner() *scope {
	in := *s
	in.bound = slices.Clone(s.bound)
	return &in
}

func (s *scope) rule(r api.Rule) {
	for _, c := range r.Conds {
		s.cond(c)
	}
	for _, a := range r.Acts {
		s.action(a)
	}
}

func (s *scope) cond(c api.Cond) {
	switch c.Kind {
	case api.CondIs:
		s.is(c)
	case api.CondTest:
		s.expr(c.Test, api.Bool, c.At)
	default:
		in := s.inner()
		for _, p := range c.Patterns {
			in.pattern(p)
		}
	}
}

// is looks at a condition that its one pattern is there.
func (s *scope) is(c api.Cond) {
	if len(s.there) == api.MaxPositive {
		giveUp(c.At, api.ErrMany)
	}
	p := c.Patterns[0]
	if p.Name != "" && s.factNumber(p.Name) >= 0 {
		giveUp(p.At, api.ErrTwice)
	}
	s.pattern(p)
	s.there = append(s.there, p)
}

// factNumber tells which of the patterns that are there names that fact; -1,
// if none does.
func (s *scope) factNumber(name string) int {
	return slices.IndexFunc(s.there, func(p api.Pattern) bool { return p.Name == name })
}

func (s *scope) pattern(p api.Pattern) {
	kindOf := slotKinds(s.template(p.T, p.At))
	for _, x := range p.Slots {
		s.slotTest(x, kindOf(x.Slot, x.At))
	}
}

// slotTest looks at the tests of a slot of that kind.
func (s *scope) slotTest(x api.SlotTest, kind uint8) {
	name, alone := unary.Var(x.Test)
	if !alone {
		pass(unary.Check(x.Test, s.with(kind)))
		return
	}
	if s.bind(name, kind) != kind {
		giveUp(x.At, api.ErrKind)
	}
}

func (s *scope) action(a api.Action) {
	switch a.Kind {
	case api.ActAssert, api.ActLogical:
		s.sets(a.Sets, s.template(a.Name, a.At))
	case api.ActModify, api.ActRetract:
		n := s.factNumber(a.Name)
		if n < 0 {
			giveUp(a.At, api.ErrScope)
		}
		s.sets(a.Sets, s.template(s.there[n].T, a.At))
	}
}

func (s *scope) sets(l []api.Set, t api.Template) {
	kindOf := slotKinds(t)
	for _, x := range l {
		s.expr(x.E, kindOf(x.Slot, x.At), x.At)
	}
}

// expr looks at an expression that has to be of that kind, or Null; of another
// one the error is told at a place.
func (s *scope) expr(x api.Expr, kind uint8, at api.Place) {
	got, place, e := etype.Of(x, s.with(api.Null))
	pass(place, e)
	if got != kind && got != api.Null {
		giveUp(at, api.ErrKind)
	}
}

// template tells the template with that name; it gives up at a place, if there
// is none.
func (s *scope) template(name string, at api.Place) api.Template {
	i := template.Find(s.templates, name)
	if i < 0 {
		giveUp(at, api.ErrNone)
	}
	return s.templates[i]
}

// slotKinds tells what tells the kind of one slot of t after the other. It
// gives up at one that t has not, or that was asked for ahead.
func slotKinds(t api.Template) func(name string, at api.Place) uint8 {
	var ahead []string
	return func(name string, at api.Place) uint8 {
		i := template.Slot(t, name)
		if i < 0 {
			giveUp(at, api.ErrNone)
		}
		if slices.Contains(ahead, name) {
			giveUp(at, api.ErrTwice)
		}
		ahead = append(ahead, name)
		return t.Slots[i].Kind
	}
}
