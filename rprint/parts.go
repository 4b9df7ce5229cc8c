package rprint

import (
	"strconv"

	"witan/api"
	"witan/eprint"
	"witan/template"
	"witan/unary"
)

func program(p api.Program) part {
	return all(listed(p.Templates, "", templateLine), listed(p.Rules, "", ruleLines))
}

func templateLine(t api.Template) part {
	slot := func(s api.Slot) part { return said(" ", s.Name, ":", template.KindName(s.Kind)) }
	return line(said("template ", t.Name), listed(t.Slots, "", slot))
}

func ruleLines(r api.Rule) part {
	return all(
		line(said("rule ", r.Name), salience(r.Salience)),
		line(said("when")),
		listed(r.Conds, "", func(c api.Cond) part { return line(said("  "), cond(c)) }),
		line(said("then")),
		listed(r.Acts, "", func(a api.Action) part { return line(said("  "), action(a)) }),
		line(said("end")),
	)
}

// salience says nothing of 0.
func salience(n int) part {
	if n == 0 {
		return said()
	}
	return said(" ", strconv.Itoa(n))
}

// cond leaves it to the reader whether there are as many patterns as the kind
// has, and whether a fact's name may stand ahead of them there.
func cond(c api.Cond) part {
	patterns := listed(c.Patterns, " ", pattern)
	switch c.Kind {
	case api.CondIs:
		return patterns
	case api.CondNot:
		return all(said("not "), patterns)
	case api.CondExists:
		return all(said("exists "), patterns)
	case api.CondNone:
		return all(said("not ("), patterns, said(")"))
	case api.CondTest:
		return all(said("test "), told(eprint.Text(c.Test)))
	}
	return told("", api.ErrForm)
}

func pattern(p api.Pattern) part {
	slot := func(s api.SlotTest) part { return all(said(s.Slot, ": "), told(unary.Text(s.Test))) }
	return all(factName(p.Name), said(p.T, "("), listed(p.Slots, ", ", slot), said(")"))
}

// factName says nothing of a fact without a name.
func factName(name string) part {
	if name == "" {
		return said()
	}
	return said(name, ": ")
}

func action(a api.Action) part {
	switch a.Kind {
	case api.ActAssert:
		return sets("assert ", a)
	case api.ActLogical:
		return sets("logical ", a)
	case api.ActModify:
		return sets("modify ", a)
	case api.ActRetract:
		return said("retract ", a.Name)
	case api.ActHalt:
		return said("halt")
	}
	return told("", api.ErrForm)
}

// sets is an action that sets slots, behind the word with which it begins.
func sets(word string, a api.Action) part {
	set := func(s api.Set) part { return all(said(s.Slot, ": "), told(eprint.Text(s.E))) }
	return all(said(word, a.Name, "("), listed(a.Sets, ", ", set), said(")"))
}
