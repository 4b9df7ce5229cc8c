package table

import (
	"slices"
	"strings"

	"witan/api"
	"witan/expr"
	"witan/lexer"
	"witan/unary"
)

// The model goes through a text word by word, from state to state: nothing in
// it calls itself, and it looks no word ahead.
type machine struct {
	l     []api.Tok
	i     int
	a     api.Table
	state string
}

// model answers as Parse does.
func model(s string) (api.Table, api.Place, api.Errno) {
	l, at, e := lexer.Lex(s)
	if e != 0 {
		return api.Table{}, at, e
	}
	m := &machine{l: l, state: "table"}
	for m.state != "over" {
		e := m.ofHead()
		if e < 0 {
			e = m.ofSlots()
		}
		if e < 0 {
			e = m.ofRows()
		}
		if e < 0 {
			panic("no such state: " + m.state)
		}
		if e > 0 {
			return api.Table{}, m.place(), e
		}
	}
	return m.a, api.Place{}, 0
}

// none is told by what does not know a state.
const none = api.Errno(-1)

// w tells the next word as one of the grammar's.
func (m *machine) w() string {
	if k := m.kind(); k == 1 || k == 7 {
		return m.l[m.i].Text
	}
	return ""
}

func (m *machine) kind() uint8 {
	if m.i == len(m.l) {
		return 0
	}
	return m.l[m.i].Kind
}

func (m *machine) place() api.Place {
	if m.i < len(m.l) {
		return m.l[m.i].At
	}
	return expr.Behind(m.l)
}

// kept are the words that chapter 4 keeps.
var kept = strings.Split("true, false, null, and, or, not, if, abs, min, max, mod, length, upper, contains, starts, template, rule, when, then, end, exists, test, assert, logical, modify, retract, halt, table, in, out, row", ", ")

func (m *machine) isName() bool { return m.kind() == 1 && !slices.Contains(kept, m.l[m.i].Text) }

// goes goes on to that state behind the next word, if that may stand there.
func (m *machine) goes(may bool, state string) api.Errno {
	if !may {
		return 4
	}
	m.i++
	m.state = state
	return 0
}

// turns goes on to that state at the same word.
func (m *machine) turns(state string) api.Errno {
	m.state = state
	return 0
}

func (m *machine) ofHead() api.Errno {
	w := m.w()
	switch m.state {
	case "table":
		m.a.At = m.place()
		return m.goes(w == "table", "name")
	case "name":
		m.a.Name = w
		return m.goes(m.isName(), "policy")
	case "policy":
		m.a.Policy = map[string]uint8{"unique": 1, "first": 2, "priority": 3, "any": 4, "order": 5, "collect": 6, "sum": 7, "min": 8, "max": 9, "count": 10}[w]
		if w == "priority" {
			return m.goes(true, "value")
		}
		return m.goes(m.a.Policy > 0, "in")
	case "value":
		switch k := m.kind(); {
		case w == "-":
			return m.goes(true, "number")
		case w == "true" || w == "false":
			n := int64(len("false") - len(w))
			m.a.Order = append(m.a.Order, api.Value{Kind: 4, N: n})
			return m.goes(true, "behind value")
		case k == 4 || k == 5 || k == 6:
			m.a.Order = append(m.a.Order, m.l[m.i].V)
			return m.goes(true, "behind value")
		}
		return 4
	case "number":
		if m.kind() != 4 {
			return 4
		}
		v := m.l[m.i].V
		m.a.Order = append(m.a.Order, api.Value{Kind: v.Kind, N: 0 - v.N})
		return m.goes(true, "behind value")
	case "behind value":
		if w == "in" {
			return m.turns("in")
		}
		if len(m.a.Order) == 32 {
			return 14
		}
		return m.turns("value")
	}
	return none
}

func (m *machine) ofSlots() api.Errno {
	w := m.w()
	l := &m.a.In
	if strings.HasPrefix(m.state, "out") {
		l = &m.a.Out
	}
	switch m.state {
	case "in":
		return m.goes(w == "in", "in slot")
	case "out":
		return m.goes(w == "out", "out slot")
	case "in slot", "out slot":
		*l = append(*l, api.Slot{Name: w})
		return m.goes(m.isName(), m.state+" colon")
	case "in slot colon", "out slot colon":
		return m.goes(w == ":", strings.Replace(m.state, "colon", "kind", 1))
	case "in slot kind", "out slot kind":
		kind := &(*l)[len(*l)-1].Kind
		*kind = map[string]uint8{"int": 1, "dec": 2, "str": 3, "bool": 4, "sym": 5}[w]
		return m.goes(*kind > 0, strings.Replace(m.state, "kind", "end", 1))
	case "in slot end":
		if w == "out" {
			return m.turns("out")
		}
		if len(*l) == 4 {
			return 14
		}
		return m.turns("in slot")
	case "out slot end":
		if w == "row" || w == "end" {
			return m.turns("rows")
		}
		if len(*l) == 4 {
			return 14
		}
		return m.turns("out slot")
	}
	return none
}

func (m *machine) row() *api.Row { return &m.a.Rows[len(m.a.Rows)-1] }

func (m *machine) ofRows() api.Errno {
	w := m.w()
	switch m.state {
	case "rows":
		if w == "end" {
			return m.goes(true, "behind end")
		}
		if len(m.a.Rows) == 32 {
			return 14
		}
		m.a.Rows = append(m.a.Rows, api.Row{At: m.place()})
		return m.goes(w == "row", "test")
	case "test":
		x, n, e := unary.One(m.l, m.i)
		m.i = n
		m.row().Tests = append(m.row().Tests, x)
		m.state = "behind test"
		return e
	case "behind test":
		ahead, all := len(m.row().Tests), len(m.a.In)
		if w == "," {
			m.i++
			m.state = "test"
		}
		switch {
		case w == "," && ahead == all, w != "," && ahead < all:
			return 14
		case w == ",":
			return 0
		}
		return m.goes(w == ":", "expr")
	case "expr":
		x, n, e := expr.Parse(m.l, m.i)
		m.i = n
		m.row().Outs = append(m.row().Outs, x)
		m.state = "behind expr"
		return e
	case "behind expr":
		ahead, all := len(m.row().Outs), len(m.a.Out)
		if w == "," {
			m.i++
			m.state = "expr"
		}
		switch {
		case w == "," && ahead == all, w != "," && ahead < all:
			return 14
		case w == ",":
			return 0
		}
		return m.turns("rows")
	case "behind end":
		if m.i < len(m.l) {
			return 4
		}
		return m.turns("over")
	}
	return none
}
