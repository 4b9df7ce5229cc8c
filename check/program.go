package check

import (
	"slices"

	"witan/api"
	"witan/template"
)

// fault is what is met, and its place.
type fault struct {
	at api.Place
	e  api.Errno
}

// giveUp ends all looking.
func giveUp(at api.Place, e api.Errno) { panic(fault{at, e}) }

// pass goes on, if another layer tells no error; it gives up with the error else.
func pass(at api.Place, e api.Errno) {
	if e != api.OK {
		giveUp(at, e)
	}
}

// firstMet looks at a program that may be, and tells what is met first. Only
// giveUp panics with a fault; any other panic is a mistake of this package's,
// and goes on.
func firstMet(p api.Program) (at api.Place, e api.Errno) {
	defer func() {
		if x := recover(); x != nil {
			f := x.(fault)
			at, e = f.at, f.e
		}
	}()
	lookAtTemplates(p)
	lookAtRules(p)
	return api.Place{}, api.OK
}

func lookAtTemplates(p api.Program) {
	for i, t := range p.Templates {
		if template.Find(p.Templates, t.Name) < i || hasTwice(t) {
			giveUp(templatePlace(p, i), api.ErrTwice)
		}
	}
}

// hasTwice tells whether two slots of t have one name.
func hasTwice(t api.Template) bool {
	for i, x := range t.Slots {
		if template.Slot(t, x.Name) < i {
			return true
		}
	}
	return false
}

// templatePlace tells none, where p has none: a program may be without places.
func templatePlace(p api.Program, i int) api.Place {
	if i < len(p.At) {
		return p.At[i]
	}
	return api.Place{}
}

func lookAtRules(p api.Program) {
	for i, r := range p.Rules {
		if slices.ContainsFunc(p.Rules[:i], func(x api.Rule) bool { return x.Name == r.Name }) {
			giveUp(r.At, api.ErrTwice)
		}
		s := &scope{templates: p.Templates}
		s.rule(r)
	}
}
