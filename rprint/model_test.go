package rprint

import (
	"fmt"
	"math/rand"
	"reflect"
	"regexp"
	"slices"
	"strings"
	"testing"

	"witan/api"
	"witan/eprint"
	"witan/rule"
	"witan/unary"
)

// model tells a program's text, and whether it has one, without reading any:
// part by part, by what the chapters say that a program of a text has.
type model struct{ fault string }

func (m *model) need(holds bool, fault string) {
	if !holds && m.fault == "" {
		m.fault = fault
	}
}

var formOfNames = regexp.MustCompile(`^[a-z][a-z0-9]{0,11}$`)

// kept are the words that chapter 4 keeps.
var kept = strings.Split("true, false, null, and, or, not, if, abs, min, max, mod, length, upper, contains, starts, template, rule, when, then, end, exists, test, assert, logical, modify, retract, halt, table, in, out, row", ", ")

func (m *model) name(s string) string {
	m.need(formOfNames.MatchString(s) && !slices.Contains(kept, s), "a name")
	return s
}

func (m *model) many(n, least, most int, what string) {
	m.need(least <= n && n <= most, "how many "+what)
}

func (m *model) expr(x api.Expr) string {
	s, e := eprint.Text(x)
	m.need(e == api.OK, "an expression")
	return s
}

func (m *model) tests(x api.Tests) string {
	s, e := unary.Text(x)
	m.need(e == api.OK, "tests")
	return s
}

func (m *model) pattern(p api.Pattern) string {
	m.many(len(p.Slots), 0, 8, "slots' tests")
	var l []string
	for _, s := range p.Slots {
		l = append(l, m.name(s.Slot)+": "+m.tests(s.Test))
	}
	return m.name(p.T) + "(" + strings.Join(l, ", ") + ")"
}

func (m *model) patterns(l []api.Pattern, least, most int) string {
	m.many(len(l), least, most, "patterns")
	var texts []string
	for _, p := range l {
		texts = append(texts, m.pattern(p))
	}
	return strings.Join(texts, " ")
}

func (m *model) cond(c api.Cond) string {
	for _, p := range c.Patterns {
		m.need(p.Name == "" || c.Kind == 1, "a fact's name")
	}
	m.need(len(c.Test) == 0 || c.Kind == 5, "a test beside patterns")
	switch c.Kind {
	case 1:
		s := m.patterns(c.Patterns, 1, 1)
		if len(c.Patterns) > 0 && c.Patterns[0].Name != "" {
			s = m.name(c.Patterns[0].Name) + ": " + s
		}
		return s
	case 2:
		return "not " + m.patterns(c.Patterns, 1, 1)
	case 3:
		return "exists " + m.patterns(c.Patterns, 1, 1)
	case 4:
		return "not (" + m.patterns(c.Patterns, 1, 4) + ")"
	case 5:
		m.many(len(c.Patterns), 0, 0, "patterns of a test")
		return "test " + m.expr(c.Test)
	}
	m.need(false, "a condition's kind")
	return ""
}

func (m *model) action(a api.Action) string {
	words := []string{1: "assert", 2: "logical", 3: "modify", 4: "retract", 5: "halt"}
	m.need(0 < a.Kind && a.Kind < 6, "an action's kind")
	m.many(len(a.Sets), 0, []int{0, 8, 8, 8, 0, 0}[a.Kind%6], "sets")
	if m.fault != "" {
		return ""
	}
	s := words[a.Kind]
	if a.Kind == 5 {
		m.need(a.Name == "", "a name of halt")
		return s
	}
	s += " " + m.name(a.Name)
	if a.Kind == 4 {
		return s
	}
	var l []string
	for _, x := range a.Sets {
		l = append(l, m.name(x.Slot)+": "+m.expr(x.E))
	}
	return s + "(" + strings.Join(l, ", ") + ")"
}

func (m *model) template(t api.Template) string {
	m.many(len(t.Slots), 1, 8, "slots")
	s := "template " + m.name(t.Name)
	for _, x := range t.Slots {
		m.need(1 <= x.Kind && x.Kind <= 5, "a slot's kind")
		s += " " + m.name(x.Name) + ":" + []string{"null", "int", "dec", "str", "bool", "sym"}[x.Kind%6]
	}
	return s + "\n"
}

func (m *model) rule(r api.Rule) string {
	m.need(-100 <= r.Salience && r.Salience <= 100, "a salience")
	m.many(len(r.Conds), 0, 6, "conditions")
	m.many(len(r.Acts), 0, 8, "actions")
	s := "rule " + m.name(r.Name)
	if r.Salience != 0 {
		s += fmt.Sprintf(" %d", r.Salience)
	}
	s += "\nwhen\n"
	for _, c := range r.Conds {
		s += "  " + m.cond(c) + "\n"
	}
	s += "then\n"
	for _, a := range r.Acts {
		s += "  " + m.action(a) + "\n"
	}
	return s + "end\n"
}

// modelText tells a program's text; nothing and why, if it has none.
func modelText(p api.Program) (string, string) {
	var m model
	var s string
	m.many(len(p.Templates), 0, 16, "templates")
	m.many(len(p.Rules), 0, 32, "rules")
	for _, t := range p.Templates {
		s += m.template(t)
	}
	for _, r := range p.Rules {
		s += m.rule(r)
	}
	m.need(len(s) <= 65536, "a text's length")
	if m.fault != "" {
		return "", m.fault
	}
	return s, ""
}

// holdModel asks that a program is answered as the model does, and tells what
// is at fault with it, if it has no text.
func holdModel(t *testing.T, p api.Program) string {
	t.Helper()
	before := fmt.Sprintf("%v", p)
	want, fault := modelText(p)
	if fault != "" {
		if s, e := Text(p); s != "" || e != api.ErrForm || May(p) {
			t.Fatalf("%.1000v: Text = %.1000q, %d, May: %v; the model has none: %s", p, s, e, May(p), fault)
		}
	} else {
		has(t, p, want)
	}
	if fmt.Sprintf("%v", p) != before {
		t.Fatalf("what was handed in is changed: %.1000v", p)
	}
	return fault
}

// maker makes programs by chance.
type maker struct{ *rand.Rand }

func (m maker) pick(l ...string) string { return l[m.Intn(len(l))] }

// size tells how many, mostly few, of at most so many.
func (m maker) size(least, most int) int {
	switch m.Intn(8) {
	case 0:
		return least
	case 1:
		return most
	}
	return least + m.Intn(min(most-least, 2)+1)
}

func (m maker) name() string {
	return m.pick("a", "b", "p", "x1", "int", "sym", "bool", "rules", "ends", "whens", "tests", "nots", "abcdefghijkl", "z9")
}

func (m maker) expr() string {
	return m.pick("1", "1.5", "\"u\"", "\"then\"", "#end", "?n", "?", "true", "null", "-1", "(1)", "not ?n", "not (?n or ?)", "?n+1*2", "((?n-1))/2>=3", "min(1,2,3)", "length(\"(\")=1 and ?", "if(?then,1,--2)", "contains(\"a\",\"b\")or false", "1-(2-(3-4))", "#rule<>?rule")
}

func (m maker) tests() string {
	return m.pick("-", "> 1", "<=?n+1", "= \"when\"", "[1..2]", "(?n..2)", "((1)..2]", "not(1)", "not(-,1)", "not(?n and (1))", "= not(?n and ?)", "1,2", "-,-,>3,true", "not(not(not(not(1))))", "#a,null,\",y:1\"", "[-1..?),not(5)", m.expr(), m.expr())
}

func (m maker) slots(of func() string) string {
	l := make([]string, m.size(0, 8))
	for i := range l {
		l[i] = m.name() + ":" + of()
	}
	return "(" + strings.Join(l, ",") + ")"
}

func (m maker) pattern() string { return m.name() + m.slots(m.tests) }

func (m maker) cond() string {
	switch m.Intn(6) {
	case 0:
		return m.pattern()
	case 1:
		return m.name() + ":" + m.pattern()
	case 2:
		return "not " + m.pattern()
	case 3:
		return "exists " + m.pattern()
	case 4:
		return "test " + m.expr()
	}
	s := "not("
	for range m.size(1, 4) {
		s += m.pattern() + " "
	}
	return s + ")"
}

func (m maker) action() string {
	word := m.pick("assert", "logical", "modify", "retract", "halt")
	switch word {
	case "halt":
		return word
	case "retract":
		return word + " " + m.name()
	}
	return word + " " + m.name() + m.slots(m.expr)
}

func (m maker) program() string {
	var s string
	for range m.size(0, 16) {
		s += "template " + m.name()
		for range m.size(1, 8) {
			s += " " + m.name() + ":" + m.pick("int", "dec", "str", "bool", "sym")
		}
		s += "\n"
	}
	for range m.Intn(4) {
		s += "rule " + m.name() + m.pick("", "", " 0", " -0", " 1", " -1", " 100", " -100", " 42", " - 7") + " when "
		for range m.size(0, 6) {
			s += m.cond() + " "
		}
		s += "then "
		for range m.size(0, 8) {
			s += m.action() + " "
		}
		s += "end\n"
	}
	return s
}

// P13.1, P13.2: what is read of texts made by chance has the model's text.
func TestTextsByChance(t *testing.T) {
	m := maker{rand.New(rand.NewSource(13))}
	for range 800 {
		s := m.program()
		if fault := holdModel(t, read(t, s)); fault != "" && len(s) < 40000 {
			t.Fatalf("what is read of %.2000q has no text: %s", s, fault)
		}
	}
}

// parts tells all that a value is made of, itself first.
func parts(v reflect.Value) []reflect.Value {
	l := []reflect.Value{v}
	switch v.Kind() {
	case reflect.Struct:
		for i := range v.NumField() {
			l = append(l, parts(v.Field(i))...)
		}
	case reflect.Slice:
		for i := range v.Len() {
			l = append(l, parts(v.Index(i))...)
		}
	}
	return l
}

func partsOf(p *api.Program) []reflect.Value { return parts(reflect.ValueOf(p).Elem()) }

// changes tells by what one part alone is made another one.
func changes(v reflect.Value) []func() {
	switch v.Kind() {
	case reflect.String:
		var l []func()
		for _, s := range []string{"", "p", "not", "test", "then", "x y", v.String() + "x", v.String() + "\n", v.String() + ":", v.String() + " 1"} {
			l = append(l, func() { v.SetString(s) })
		}
		return l
	case reflect.Int, reflect.Int64:
		return []func(){func() { v.SetInt(v.Int() + 1) }, func() { v.SetInt(v.Int() - 1) }, func() { v.SetInt(0) }, func() { v.SetInt(v.Int() + 1<<40) }, func() { v.SetInt(v.Int() + 101) }, func() { v.SetInt(-v.Int()) }}
	case reflect.Uint8:
		var l []func()
		for n := range uint64(11) {
			l = append(l, func() { v.SetUint(n) })
		}
		return append(l, func() { v.SetUint(255) }, func() { v.SetUint(128 + v.Uint()) })
	case reflect.Bool:
		return []func(){func() { v.SetBool(!v.Bool()) }}
	case reflect.Slice:
		l := []func(){func() { v.Set(reflect.Append(v, reflect.Zero(v.Type().Elem()))) }, func() { v.Set(reflect.Zero(v.Type())) }}
		if v.Len() > 0 {
			first := v.Index(0)
			l = append(l, func() { v.Set(v.Slice(0, v.Len()-1)) }, func() { v.Set(v.Slice(1, v.Len())) }, func() { v.Set(reflect.Append(v, first)) }, func() {
				for range 9 {
					v.Set(reflect.Append(v, first))
				}
			})
		}
		return l
	}
	return nil
}

// P13.1: a program with each part that one may have, and that part alone
// another one, is answered as the model does, whichever part it is.
func TestEachPartChanged(t *testing.T) {
	all := full(t)
	faults := map[string]int{}
	for i, of := range partsOf(&all) {
		for k := range changes(of) {
			p := full(t)
			changes(partsOf(&p)[i])[k]()
			faults[holdModel(t, p)]++
		}
	}
	for _, fault := range []string{"", "a name", "an expression", "tests", "a fact's name", "a test beside patterns", "how many slots", "how many patterns", "how many patterns of a test", "how many slots' tests", "how many sets", "how many conditions", "how many actions", "a condition's kind", "an action's kind", "a slot's kind", "a salience", "a name of halt"} {
		if faults[fault] == 0 {
			t.Errorf("no change with that fault: %q", fault)
		}
	}
}

// P13.1: programs by chance, with a part or some changed by chance.
func TestChangesByChance(t *testing.T) {
	m := maker{rand.New(rand.NewSource(14))}
	met := map[bool]int{}
	for range 150 {
		s := m.program()
		for range 12 {
			p := read(t, s)
			for range 1 + m.Intn(2) {
				l := partsOf(&p)
				if c := changes(l[m.Intn(len(l))]); len(c) > 0 {
					c[m.Intn(len(c))]()
				}
			}
			met[holdModel(t, p) == ""]++
		}
	}
	if met[true] < 200 || met[false] < 200 {
		t.Errorf("programs with a text, and without: %v", met)
	}
}

// anyProgram makes one of anything, by its types alone.
func (m maker) anyProgram() api.Program {
	var p api.Program
	var fill func(v reflect.Value)
	fill = func(v reflect.Value) {
		switch v.Kind() {
		case reflect.Struct:
			for i := range v.NumField() {
				fill(v.Field(i))
			}
		case reflect.Slice:
			v.Set(reflect.MakeSlice(v.Type(), m.Intn(3), 3))
			for i := range v.Len() {
				fill(v.Index(i))
			}
		case reflect.String:
			v.SetString(m.pick("", "a", "b", "rule", "\xff", "a()\n", "a: b"))
		case reflect.Int, reflect.Int64:
			v.SetInt(int64(m.Intn(4)-1) << m.Intn(63))
		case reflect.Uint8:
			v.SetUint(uint64([]int{0, 1, 2, 3, 4, 5, 6, 9, 255}[m.Intn(9)]))
		case reflect.Bool:
			v.SetBool(m.Intn(2) == 0)
		}
	}
	fill(reflect.ValueOf(&p).Elem())
	return p
}

// P13.1, P13.2, P1: any programs and rules.
func TestAnyPrograms(t *testing.T) {
	m := maker{rand.New(rand.NewSource(15))}
	for range 5000 {
		p := m.anyProgram()
		holdModel(t, p)
		for _, r := range p.Rules {
			want, fault := modelText(api.Program{Rules: []api.Rule{r}})
			if s, e := Rule(r); s != want || (e == api.OK) != (fault == "") || (e != api.OK && e != api.ErrForm) {
				t.Fatalf("Rule(%v) = %q, %d; want %q, %s", r, s, e, want, fault)
			}
		}
	}
}

// P13.1: places change nothing, wrong, missing or too many ones.
func TestPlaces(t *testing.T) {
	m := maker{rand.New(rand.NewSource(16))}
	for n := range 150 {
		p := full(t)
		if n > 0 {
			p = read(t, m.program())
		}
		want, e := Text(p)
		if e != api.OK {
			continue
		}
		for _, v := range partsOf(&p) {
			if at, ok := v.Addr().Interface().(*api.Place); ok {
				*at = []api.Place{{}, {Line: -1, Col: 1 << 40}, {Line: m.Int(), Col: -m.Int()}}[m.Intn(3)]
			}
		}
		for _, l := range [][]api.Place{p.At, nil, {}, make([]api.Place, len(p.Templates)+1), {{Line: 3}}, make([]api.Place, 100000)} {
			p.At = l
			if s, e := Text(p); s != want || e != api.OK || !May(p) || !rule.Same(read(t, s), p) {
				t.Fatalf("with other places: %q, %d; want %q", s, e, want)
			}
		}
		for i, r := range p.Rules {
			s, e := Rule(r)
			if e != api.OK || !strings.Contains(want, s) {
				t.Fatalf("rule %d with other places: %q, %d", i, s, e)
			}
		}
	}
}
