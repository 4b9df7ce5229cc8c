package rule

import (
	"witan/api"
	"witan/expr"
	"witan/lexer"
	"witan/unary"
)

// The model goes through a text word by word, from state to state: nothing in
// it calls itself, and it looks no word ahead.
type machine struct {
	l        []api.Tok
	i        int
	p        api.Program
	state    string
	negative bool
	name     string // that may be a fact's, or a template's
	at       api.Place
	fact     string
}

// model answers as Parse does.
func model(s string) (api.Program, api.Place, api.Errno) {
	l, at, e := lexer.Lex(s)
	if e != 0 {
		return api.Program{}, at, e
	}
	m := &machine{l: l, state: "templates"}
	for m.state != "over" {
		e := m.ofTemplates()
		if e < 0 {
			e = m.ofRules()
		}
		if e < 0 {
			e = m.ofConds()
		}
		if e < 0 {
			e = m.ofActs()
		}
		if e < 0 {
			panic("no such state: " + m.state)
		}
		if e > 0 {
			if m.i < len(l) {
				return api.Program{}, l[m.i].At, e
			}
			return api.Program{}, expr.Behind(l), e
		}
	}
	return m.p, api.Place{}, 0
}

// none is told by what does not know a state.
const none = api.Errno(-1)

// w tells the next word as one of the grammar's.
func (m *machine) w() string {
	if m.i < len(m.l) && (m.l[m.i].Kind == 1 || m.l[m.i].Kind == 7) {
		return m.l[m.i].Text
	}
	return ""
}

func (m *machine) place() api.Place {
	if m.i < len(m.l) {
		return m.l[m.i].At
	}
	return api.Place{}
}

// isName tells whether the next word is one that layer 4 takes for a name.
func (m *machine) isName() bool {
	if m.i == len(m.l) || m.l[m.i].Kind != 1 {
		return false
	}
	switch m.l[m.i].Text {
	case "true", "false", "null", "and", "or", "not", "if", "abs", "min", "max", "mod", "length", "upper", "contains", "starts",
		"template", "rule", "when", "then", "end", "exists", "test", "assert", "logical", "modify", "retract", "halt",
		"table", "in", "out", "row":
		return false
	}
	return true
}

// goes goes on to that state behind the next word, if that may stand there.
func (m *machine) goes(may bool, state string) api.Errno {
	if !may {
		return 4
	}
	m.i++
	m.state = state
	return 0
}

// turns goes on to that state at the same word.
func (m *machine) turns(state string) api.Errno {
	m.state = state
	return 0
}

func (m *machine) ofTemplates() api.Errno {
	n := len(m.p.Templates)
	var t *api.Template
	if n > 0 {
		t = &m.p.Templates[n-1]
	}
	switch w := m.w(); m.state {
	case "templates":
		if w != "template" {
			return m.turns("rules")
		}
		if n == 16 {
			return 14
		}
		m.p.Templates = append(m.p.Templates, api.Template{})
		m.p.At = append(m.p.At, m.place())
		return m.goes(true, "template")
	case "template":
		t.Name = w
		return m.goes(m.isName(), "slot")
	case "slot":
		t.Slots = append(t.Slots, api.Slot{Name: w})
		return m.goes(m.isName(), "slot:")
	case "slot:":
		return m.goes(w == ":", "kind")
	case "kind":
		k := &t.Slots[len(t.Slots)-1].Kind
		switch w {
		case "int":
			*k = 1
		case "dec":
			*k = 2
		case "str":
			*k = 3
		case "bool":
			*k = 4
		case "sym":
			*k = 5
		}
		return m.goes(*k > 0, "behind slot")
	case "behind slot":
		if m.i == len(m.l) || w == "template" || w == "rule" {
			return m.turns("templates")
		}
		if len(t.Slots) == 8 {
			return 14
		}
		return m.turns("slot")
	}
	return none
}

func (m *machine) rule() *api.Rule { return &m.p.Rules[len(m.p.Rules)-1] }

func (m *machine) ofRules() api.Errno {
	w := m.w()
	switch m.state {
	case "rules":
		if m.i == len(m.l) {
			return m.turns("over")
		}
		if len(m.p.Rules) == 32 {
			return 14
		}
		m.p.Rules = append(m.p.Rules, api.Rule{At: m.place()})
		m.negative = false
		return m.goes(w == "rule", "rule")
	case "rule":
		m.rule().Name = w
		return m.goes(m.isName(), "salience")
	case "salience":
		if w == "-" {
			m.negative = true
			return m.goes(true, "number")
		}
		if m.i < len(m.l) && m.l[m.i].Kind == 4 {
			return m.turns("number")
		}
		return m.turns("when")
	case "number":
		if m.i == len(m.l) || m.l[m.i].Kind != 4 || m.l[m.i].V.Kind != 1 {
			return 4
		}
		n := m.l[m.i].V.N
		if n < -100 || n > 100 {
			return 4
		}
		if m.negative {
			n = -n
		}
		m.rule().Salience = int(n)
		return m.goes(true, "when")
	case "when":
		return m.goes(w == "when", "conds")
	}
	return none
}

// pattern tells the last pattern of the last condition.
func (m *machine) pattern() *api.Pattern {
	c := m.cond()
	return &c.Patterns[len(c.Patterns)-1]
}

func (m *machine) cond() *api.Cond { return &m.rule().Conds[len(m.rule().Conds)-1] }

func (m *machine) addCond(kind uint8) {
	m.rule().Conds = append(m.rule().Conds, api.Cond{Kind: kind, At: m.place()})
	m.fact = ""
}

func (m *machine) addPattern(name string, at api.Place) {
	m.cond().Patterns = append(m.cond().Patterns, api.Pattern{Name: m.fact, T: name, At: at})
}

func (m *machine) ofConds() api.Errno {
	w := m.w()
	switch m.state {
	case "conds":
		if w == "then" {
			return m.goes(true, "acts")
		}
		if len(m.rule().Conds) == 6 {
			return 14
		}
		if kind := map[string]uint8{"not": 2, "exists": 3, "test": 5}[w]; kind > 0 {
			m.addCond(kind)
			return m.goes(true, map[string]string{"not": "not", "exists": "pattern", "test": "test"}[w])
		}
		m.addCond(1)
		m.name, m.at = w, m.place()
		return m.goes(m.isName(), "is")
	case "is":
		if w == ":" {
			m.fact = m.name
			return m.goes(true, "pattern")
		}
		m.addPattern(m.name, m.at)
		return m.turns("pattern(")
	case "not":
		if w == "(" {
			m.cond().Kind = 4
			return m.goes(true, "pattern")
		}
		return m.turns("pattern")
	case "test":
		x, n, e := expr.Parse(m.l, m.i)
		m.i = n
		m.cond().Test = x
		if e != 0 {
			return e
		}
		return m.turns("conds")
	case "pattern":
		m.addPattern(w, m.place())
		return m.goes(m.isName(), "pattern(")
	case "behind pattern":
		if m.cond().Kind != 4 {
			return m.turns("conds")
		}
		if w == ")" {
			return m.goes(true, "conds")
		}
		if len(m.cond().Patterns) == 4 {
			return 14
		}
		return m.turns("pattern")
	}
	return m.ofSlotTests()
}

func (m *machine) ofSlotTests() api.Errno {
	w := m.w()
	switch m.state {
	case "pattern(":
		return m.goes(w == "(", "slot tests")
	case "slot tests":
		if w == ")" {
			return m.goes(true, "behind pattern")
		}
		return m.turns("slot test")
	case "slot test":
		m.pattern().Slots = append(m.pattern().Slots, api.SlotTest{Slot: w, At: m.place()})
		return m.goes(m.isName(), "slot test:")
	case "slot test:":
		return m.goes(w == ":", "tests")
	case "tests":
		x, n, e := unary.Parse(m.l, m.i)
		m.i = n
		m.pattern().Slots[len(m.pattern().Slots)-1].Test = x
		if e != 0 {
			return e
		}
		return m.turns("behind tests")
	case "behind tests":
		if w != "," {
			return m.goes(w == ")", "behind pattern")
		}
		m.i++
		if len(m.pattern().Slots) == 8 {
			return 14
		}
		return m.turns("slot test")
	}
	return none
}

func (m *machine) act() *api.Action { return &m.rule().Acts[len(m.rule().Acts)-1] }

func (m *machine) ofActs() api.Errno {
	w := m.w()
	switch m.state {
	case "acts":
		if w == "end" {
			return m.goes(true, "rules")
		}
		if len(m.rule().Acts) == 8 {
			return 14
		}
		kind := map[string]uint8{"assert": 1, "logical": 2, "modify": 3, "retract": 4, "halt": 5}[w]
		m.rule().Acts = append(m.rule().Acts, api.Action{Kind: kind, At: m.place()})
		return m.goes(kind > 0, []string{"", "action", "action", "action", "retract", "acts"}[kind])
	case "retract":
		m.act().Name = w
		return m.goes(m.isName(), "acts")
	case "action":
		m.act().Name = w
		return m.goes(m.isName(), "action(")
	case "action(":
		return m.goes(w == "(", "sets")
	case "sets":
		if w == ")" {
			return m.goes(true, "acts")
		}
		return m.turns("set")
	case "set":
		m.act().Sets = append(m.act().Sets, api.Set{Slot: w, At: m.place()})
		return m.goes(m.isName(), "set:")
	case "set:":
		return m.goes(w == ":", "expr")
	case "expr":
		x, n, e := expr.Parse(m.l, m.i)
		m.i = n
		m.act().Sets[len(m.act().Sets)-1].E = x
		if e != 0 {
			return e
		}
		return m.turns("behind expr")
	case "behind expr":
		if w != "," {
			return m.goes(w == ")", "acts")
		}
		m.i++
		if len(m.act().Sets) == 8 {
			return 14
		}
		return m.turns("set")
	}
	return none
}
