package rprint

import (
	"strconv"

	"witan/api"
	"witan/eprint"
	"witan/tell"
	"witan/unary"
)

func program(p api.Program) tell.Part {
	return tell.All(tell.Listed(p.Templates, "", templateLine), tell.Listed(p.Rules, "", ruleLines))
}

func templateLine(t api.Template) tell.Part {
	return tell.Line(tell.Said("template ", t.Name), tell.Slots(t.Slots))
}

func ruleLines(r api.Rule) tell.Part {
	return tell.All(
		tell.Line(tell.Said("rule ", r.Name), salience(r.Salience)),
		tell.Line(tell.Said("when")),
		tell.Listed(r.Conds, "", func(c api.Cond) tell.Part { return tell.Line(tell.Said("  "), cond(c)) }),
		tell.Line(tell.Said("then")),
		tell.Listed(r.Acts, "", func(a api.Action) tell.Part { return tell.Line(tell.Said("  "), action(a)) }),
		tell.Line(tell.Said("end")),
	)
}

// salience says nothing of 0.
func salience(n int) tell.Part {
	if n == 0 {
		return tell.Said()
	}
	return tell.Said(" ", strconv.Itoa(n))
}

// cond leaves it to the reader whether there are as many patterns as the kind
// has, and whether a fact's name may stand ahead of them there.
func cond(c api.Cond) tell.Part {
	patterns := tell.Listed(c.Patterns, " ", pattern)
	switch c.Kind {
	case api.CondIs:
		return patterns
	case api.CondNot:
		return tell.All(tell.Said("not "), patterns)
	case api.CondExists:
		return tell.All(tell.Said("exists "), patterns)
	case api.CondNone:
		return tell.All(tell.Said("not ("), patterns, tell.Said(")"))
	case api.CondTest:
		return tell.All(tell.Said("test "), tell.Asked(eprint.Text(c.Test)))
	}
	return tell.Asked("", api.ErrForm)
}

func pattern(p api.Pattern) tell.Part {
	slot := func(s api.SlotTest) tell.Part {
		return tell.All(tell.Said(s.Slot, ": "), tell.Asked(unary.Text(s.Test)))
	}
	return tell.All(factName(p.Name), tell.Said(p.T, "("), tell.Listed(p.Slots, ", ", slot), tell.Said(")"))
}

// factName says nothing of a fact without a name.
func factName(name string) tell.Part {
	if name == "" {
		return tell.Said()
	}
	return tell.Said(name, ": ")
}

func action(a api.Action) tell.Part {
	switch a.Kind {
	case api.ActAssert:
		return sets("assert ", a)
	case api.ActLogical:
		return sets("logical ", a)
	case api.ActModify:
		return sets("modify ", a)
	case api.ActRetract:
		return tell.Said("retract ", a.Name)
	case api.ActHalt:
		return tell.Said("halt")
	}
	return tell.Asked("", api.ErrForm)
}

// sets is an action that sets slots, behind the word with which it begins.
func sets(word string, a api.Action) tell.Part {
	set := func(s api.Set) tell.Part {
		return tell.All(tell.Said(s.Slot, ": "), tell.Asked(eprint.Text(s.E)))
	}
	return tell.All(tell.Said(word, a.Name, "("), tell.Listed(a.Sets, ", ", set), tell.Said(")"))
}
