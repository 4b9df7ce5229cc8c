package rule

import (
	"witan/api"
	"witan/reading"
)

// reader reads a program's parts out of its words.
type reader struct {
	*reading.Words
}

func (r *reader) program() api.Program {
	var p api.Program
	behindTemplates := func() bool { return !r.Is("template") }
	r.Several(0, api.MaxTemplates, behindTemplates, func() {
		p.At = append(p.At, r.Place())
		p.Templates = append(p.Templates, r.template())
	})
	r.Several(0, api.MaxRules, r.AtEnd, func() { p.Rules = append(p.Rules, r.rule()) })
	return p
}

func (r *reader) template() api.Template {
	r.Take("template")
	t := api.Template{Name: r.Name()}
	ended := func() bool { return r.AtEnd() || r.Is("template", "rule") }
	r.Several(1, api.MaxSlots, ended, func() { t.Slots = append(t.Slots, r.Slot()) })
	return t
}

func (r *reader) rule() api.Rule {
	x := api.Rule{At: r.Place()}
	r.Take("rule")
	x.Name = r.Name()
	x.Salience = r.salience()
	r.Take("when")
	behind := func(word string) func() bool { return func() bool { return r.Took(word) } }
	r.Several(0, api.MaxConds, behind("then"), func() { x.Conds = append(x.Conds, r.cond()) })
	r.Several(0, api.MaxActs, behind("end"), func() { x.Acts = append(x.Acts, r.action()) })
	return x
}

// salience tells 0, if no number is there.
func (r *reader) salience() int {
	sign := 1
	if r.Took("-") {
		sign = -1
	} else if r.Word().Kind != api.TokNumber {
		return 0
	}
	w := r.Word()
	if w.Kind != api.TokNumber || w.V.Kind != api.Int || w.V.N > api.MaxSalience {
		r.GiveUp(api.ErrForm)
	}
	r.Pass()
	return sign * int(w.V.N)
}

func (r *reader) cond() api.Cond {
	c := api.Cond{At: r.Place()}
	switch {
	case r.Took("test"):
		c.Kind, c.Test = api.CondTest, r.Expr()
	case r.Took("exists"):
		c.Kind, c.Patterns = api.CondExists, []api.Pattern{r.pattern()}
	case !r.Took("not"):
		c.Kind, c.Patterns = api.CondIs, []api.Pattern{r.factPattern()}
	case r.Took("("):
		c.Kind, c.Patterns = api.CondNone, r.group()
	default:
		c.Kind, c.Patterns = api.CondNot, []api.Pattern{r.pattern()}
	}
	return c
}

// group reads patterns up to the ")" behind them.
func (r *reader) group() []api.Pattern {
	var l []api.Pattern
	ended := func() bool { return r.Took(")") }
	r.Several(1, api.MaxGroup, ended, func() { l = append(l, r.pattern()) })
	return l
}

// factPattern reads a pattern, with its fact's name ahead, if there is one: the
// word behind the first name tells whose name that is.
func (r *reader) factPattern() api.Pattern {
	at, name := r.Place(), r.Name()
	if !r.Took(":") {
		return r.patternOf(name, at)
	}
	p := r.pattern()
	p.Name = name
	return p
}

func (r *reader) pattern() api.Pattern {
	at, name := r.Place(), r.Name()
	return r.patternOf(name, at)
}

// patternOf reads what stands behind a template's name.
func (r *reader) patternOf(name string, at api.Place) api.Pattern {
	p := api.Pattern{T: name, At: at}
	r.slots(func(slot string, at api.Place) {
		p.Slots = append(p.Slots, api.SlotTest{Slot: slot, Test: r.Tests(), At: at})
	})
	return p
}

func (r *reader) action() api.Action {
	a := api.Action{Kind: actionKind(r.Quoted()), At: r.Place()}
	switch a.Kind {
	case api.ActHalt:
		r.Pass()
	case api.ActRetract:
		r.Pass()
		a.Name = r.Name()
	case api.ActAssert, api.ActLogical, api.ActModify:
		r.Pass()
		a.Name = r.Name()
		r.slots(func(slot string, at api.Place) {
			a.Sets = append(a.Sets, api.Set{Slot: slot, E: r.Expr(), At: at})
		})
	default:
		r.GiveUp(api.ErrForm)
	}
	return a
}

// actionKind tells the kind of the action that begins with that word; 0, if
// none does.
func actionKind(word string) uint8 {
	switch word {
	case "assert":
		return api.ActAssert
	case "logical":
		return api.ActLogical
	case "modify":
		return api.ActModify
	case "retract":
		return api.ActRetract
	case "halt":
		return api.ActHalt
	}
	return 0
}

// slots reads slots in parentheses; what is told of each one reads on behind
// its colon.
func (r *reader) slots(its func(slot string, at api.Place)) {
	r.Take("(")
	if r.Took(")") {
		return
	}
	ended := func() bool { return !r.Took(",") }
	r.Several(1, api.MaxSlots, ended, func() {
		at, slot := r.Place(), r.Name()
		r.Take(":")
		its(slot, at)
	})
	r.Take(")")
}
