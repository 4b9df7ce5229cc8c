package rule

import (
	"witan/api"
	"witan/expr"
	"witan/template"
	"witan/unary"
)

// reader reads a program's parts out of its words.
type reader struct {
	words
}

// read reads a program that is all words, or tells why the next one can't go
// on with it. Only giveUp panics with an Errno; any other panic is a fault,
// and goes on.
func (r *reader) read() (p api.Program, e api.Errno) {
	defer func() {
		if x := recover(); x != nil {
			p, e = api.Program{}, x.(api.Errno)
		}
	}()
	return r.program(), api.OK
}

// several reads one by one, until what ends them is met behind the least; it
// gives up where the most stand, and are not ended.
func (r *reader) several(least, most int, ended func() bool, one func()) {
	for n := 0; n < least || !ended(); n++ {
		if n == most {
			r.giveUp(api.ErrMany)
		}
		one()
	}
}

func (r *reader) program() api.Program {
	var p api.Program
	behindTemplates := func() bool { return !r.is("template") }
	r.several(0, api.MaxTemplates, behindTemplates, func() {
		p.At = append(p.At, r.place())
		p.Templates = append(p.Templates, r.template())
	})
	r.several(0, api.MaxRules, r.atEnd, func() { p.Rules = append(p.Rules, r.rule()) })
	return p
}

func (r *reader) template() api.Template {
	r.take("template")
	t := api.Template{Name: r.name()}
	ended := func() bool { return r.atEnd() || r.is("template", "rule") }
	r.several(1, api.MaxSlots, ended, func() { t.Slots = append(t.Slots, r.slot()) })
	return t
}

func (r *reader) slot() api.Slot {
	s := api.Slot{Name: r.name()}
	r.take(":")
	kind, ok := template.Kind(r.quoted())
	if !ok {
		r.giveUp(api.ErrForm)
	}
	r.next++
	s.Kind = kind
	return s
}

func (r *reader) rule() api.Rule {
	x := api.Rule{At: r.place()}
	r.take("rule")
	x.Name = r.name()
	x.Salience = r.salience()
	r.take("when")
	behind := func(word string) func() bool { return func() bool { return r.took(word) } }
	r.several(0, api.MaxConds, behind("then"), func() { x.Conds = append(x.Conds, r.cond()) })
	r.several(0, api.MaxActs, behind("end"), func() { x.Acts = append(x.Acts, r.action()) })
	return x
}

// salience tells 0, if no number is there.
func (r *reader) salience() int {
	sign := 1
	if r.took("-") {
		sign = -1
	} else if r.word().Kind != api.TokNumber {
		return 0
	}
	w := r.word()
	if w.Kind != api.TokNumber || w.V.Kind != api.Int || w.V.N > api.MaxSalience {
		r.giveUp(api.ErrForm)
	}
	r.next++
	return sign * int(w.V.N)
}

func (r *reader) cond() api.Cond {
	c := api.Cond{At: r.place()}
	switch {
	case r.took("test"):
		c.Kind, c.Test = api.CondTest, r.expr()
	case r.took("exists"):
		c.Kind, c.Patterns = api.CondExists, []api.Pattern{r.pattern()}
	case !r.took("not"):
		c.Kind, c.Patterns = api.CondIs, []api.Pattern{r.factPattern()}
	case r.took("("):
		c.Kind, c.Patterns = api.CondNone, r.group()
	default:
		c.Kind, c.Patterns = api.CondNot, []api.Pattern{r.pattern()}
	}
	return c
}

// group reads patterns up to the ")" behind them.
func (r *reader) group() []api.Pattern {
	var l []api.Pattern
	ended := func() bool { return r.took(")") }
	r.several(1, api.MaxGroup, ended, func() { l = append(l, r.pattern()) })
	return l
}

// factPattern reads a pattern, with its fact's name ahead, if there is one: the
// word behind the first name tells whose name that is.
func (r *reader) factPattern() api.Pattern {
	at, name := r.place(), r.name()
	if !r.took(":") {
		return r.patternOf(name, at)
	}
	p := r.pattern()
	p.Name = name
	return p
}

func (r *reader) pattern() api.Pattern {
	at, name := r.place(), r.name()
	return r.patternOf(name, at)
}

// patternOf reads what stands behind a template's name.
func (r *reader) patternOf(name string, at api.Place) api.Pattern {
	p := api.Pattern{T: name, At: at}
	r.slots(func(slot string, at api.Place) {
		p.Slots = append(p.Slots, api.SlotTest{Slot: slot, Test: r.tests(), At: at})
	})
	return p
}

func (r *reader) action() api.Action {
	a := api.Action{Kind: actionKind(r.quoted()), At: r.place()}
	switch a.Kind {
	case api.ActHalt:
		r.next++
	case api.ActRetract:
		r.next++
		a.Name = r.name()
	case api.ActAssert, api.ActLogical, api.ActModify:
		r.next++
		a.Name = r.name()
		r.slots(func(slot string, at api.Place) {
			a.Sets = append(a.Sets, api.Set{Slot: slot, E: r.expr(), At: at})
		})
	default:
		r.giveUp(api.ErrForm)
	}
	return a
}

// actionKind tells the kind of the action that begins with that word; 0, if
// none does.
func actionKind(word string) uint8 {
	switch word {
	case "assert":
		return api.ActAssert
	case "logical":
		return api.ActLogical
	case "modify":
		return api.ActModify
	case "retract":
		return api.ActRetract
	case "halt":
		return api.ActHalt
	}
	return 0
}

// slots reads slots in parentheses; what is told of each one reads on behind
// its colon.
func (r *reader) slots(its func(slot string, at api.Place)) {
	r.take("(")
	if r.took(")") {
		return
	}
	ended := func() bool { return !r.took(",") }
	r.several(1, api.MaxSlots, ended, func() {
		at, slot := r.place(), r.name()
		r.take(":")
		its(slot, at)
	})
	r.take(")")
}

// expr reads layer 7's.
func (r *reader) expr() api.Expr {
	x, next, e := expr.Parse(r.list, r.next)
	r.reach(next, e)
	return x
}

// tests reads layer 11's.
func (r *reader) tests() api.Tests {
	t, next, e := unary.Parse(r.list, r.next)
	r.reach(next, e)
	return t
}
