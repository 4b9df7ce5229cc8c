package check

import (
	"fmt"
	"math/rand"
	"reflect"
	"slices"
	"strings"
	"testing"

	"witan/api"
	"witan/etype"
	"witan/expr"
	"witan/rprint"
	"witan/unary"
)

// wrong is what a model tells: what is met, its place, and in words what it is.
type wrong struct {
	at   api.Place
	e    api.Errno
	what string
}

// model tells what is met first in a program. It keeps nothing of what stands
// ahead: for each part it looks anew at all parts ahead of it.
type model struct{ api.Program }

// slotKind tells the kind of a template's slot, and whether both are there.
func (m model) slotKind(name, slot string) (kind uint8, isTemplate, isSlot bool) {
	for _, t := range m.Templates {
		if t.Name != name {
			continue
		}
		for _, s := range t.Slots {
			if s.Name == slot {
				return s.Kind, true, true
			}
		}
		return 0, true, false
	}
	return 0, false, false
}

// binder is a slot's test that binds a variable, if that is not bound ahead.
type binder struct{ template, slot, name string }

func binders(p api.Pattern, most int) []binder {
	var l []binder
	for _, x := range p.Slots[:min(most, len(p.Slots))] {
		if len(x.Test) == 1 && x.Test[0].Op == api.TestEq && len(x.Test[0].A) == 1 && x.Test[0].A[0].Op == api.OpVar {
			l = append(l, binder{p.T, x.Slot, x.Test[0].A[0].Name})
		}
	}
	return l
}

// ahead tells the binders ahead of slot k of pattern g of condition c, of those
// that are to be seen there.
func ahead(r api.Rule, c, g, k int) []binder {
	var l []binder
	for i, x := range r.Conds {
		for j, p := range x.Patterns {
			switch {
			case i < c && x.Kind == 1, i == c && j < g:
				l = append(l, binders(p, len(p.Slots))...)
			case i == c && j == g:
				l = append(l, binders(p, k)...)
			}
		}
	}
	return l
}

// bound tells the variables that binders bind: the first one of a name does.
func (m model) bound(l []binder) []api.Slot {
	var out []api.Slot
	for i, b := range l {
		isFirst := true
		for _, a := range l[:i] {
			_, _, ok := m.slotKind(a.template, a.slot)
			isFirst = isFirst && (a.name != b.name || !ok)
		}
		if kind, _, ok := m.slotKind(b.template, b.slot); ok && isFirst {
			out = append(out, api.Slot{Name: b.name, Kind: kind})
		}
	}
	return out
}

// vars tells a rule's variables.
func (m model) vars(r api.Rule) []api.Slot { return m.bound(ahead(r, len(r.Conds), 0, 0)) }

func (m model) whole() wrong {
	if !rprint.May(m.Program) {
		return wrong{api.Place{}, api.ErrForm, "may not be"}
	}
	for i, t := range m.Templates {
		at := api.Place{}
		if i < len(m.At) {
			at = m.At[i]
		}
		names := map[string]int{}
		for _, s := range t.Slots {
			names[s.Name]++
			if names[s.Name] > 1 {
				return wrong{at, api.ErrTwice, "a template's slots"}
			}
		}
		for _, o := range m.Templates[:i] {
			if o.Name == t.Name {
				return wrong{at, api.ErrTwice, "templates"}
			}
		}
	}
	for i, r := range m.Rules {
		for _, o := range m.Rules[:i] {
			if o.Name == r.Name {
				return wrong{r.At, api.ErrTwice, "rules"}
			}
		}
		for c := range r.Conds {
			if w := m.cond(r, c); w.e != api.OK {
				return w
			}
		}
		for _, a := range r.Acts {
			if w := m.action(r, a); w.e != api.OK {
				return w
			}
		}
	}
	return wrong{what: "none"}
}

// facts tells the names of facts, and their templates', of the patterns that
// are there in some conditions; an empty name where none is.
func facts(l []api.Cond) (names, templates []string) {
	for _, c := range l {
		if c.Kind == 1 {
			names = append(names, c.Patterns[0].Name)
			templates = append(templates, c.Patterns[0].T)
		}
	}
	return names, templates
}

func (m model) cond(r api.Rule, n int) wrong {
	c := r.Conds[n]
	names, _ := facts(r.Conds[:n])
	if c.Kind == 5 {
		vars := m.bound(ahead(r, n, 0, 0))
		kind, at, e := etype.Of(c.Test, api.Scope{Vars: vars})
		if e != api.OK {
			return wrong{at, e, "a test's expression"}
		}
		if kind != api.Bool && kind != api.Null {
			return wrong{c.At, api.ErrKind, "a test's kind"}
		}
		return wrong{}
	}
	if c.Kind == 1 && len(names) >= 4 {
		return wrong{c.At, api.ErrMany, "five patterns"}
	}
	if p := c.Patterns[0]; c.Kind == 1 && p.Name != "" && slices.Contains(names, p.Name) {
		return wrong{p.At, api.ErrTwice, "facts"}
	}
	for g, p := range c.Patterns {
		if _, ok, _ := m.slotKind(p.T, ""); !ok {
			return wrong{p.At, api.ErrNone, "a pattern's template"}
		}
		for k := range p.Slots {
			if w := m.slotTest(r, n, g, k); w.e != api.OK {
				return w
			}
		}
	}
	return wrong{}
}

func (m model) slotTest(r api.Rule, c, g, k int) wrong {
	p := r.Conds[c].Patterns[g]
	x := p.Slots[k]
	kind, _, ok := m.slotKind(p.T, x.Slot)
	if !ok {
		return wrong{x.At, api.ErrNone, "a pattern's slot"}
	}
	for _, o := range p.Slots[:k] {
		if o.Slot == x.Slot {
			return wrong{x.At, api.ErrTwice, "a pattern's slots"}
		}
	}
	vars := m.bound(ahead(r, c, g, k))
	if len(binders(api.Pattern{Slots: p.Slots[k : k+1]}, 1)) == 0 {
		at, e := unary.Check(x.Test, api.Scope{Vars: vars, Self: kind})
		return wrong{at, e, "a slot's tests"}
	}
	for _, v := range vars {
		if v.Name == x.Test[0].A[0].Name && v.Kind != kind {
			return wrong{x.At, api.ErrKind, "a variable's kind"}
		}
	}
	return wrong{}
}

func (m model) action(r api.Rule, a api.Action) wrong {
	name := a.Name
	switch a.Kind {
	case 1, 2:
		if _, ok, _ := m.slotKind(name, ""); !ok {
			return wrong{a.At, api.ErrNone, "an action's template"}
		}
	case 3, 4:
		names, templates := facts(r.Conds)
		n := slices.Index(names, name)
		if n < 0 {
			return wrong{a.At, api.ErrScope, "an action's fact"}
		}
		name = templates[n]
	}
	for i, x := range a.Sets {
		kind, _, ok := m.slotKind(name, x.Slot)
		if !ok {
			return wrong{x.At, api.ErrNone, "a set's slot"}
		}
		for _, o := range a.Sets[:i] {
			if o.Slot == x.Slot {
				return wrong{x.At, api.ErrTwice, "sets"}
			}
		}
		got, at, e := etype.Of(x.E, api.Scope{Vars: m.vars(r)})
		if e != api.OK {
			return wrong{at, e, "a set's expression"}
		}
		if got != kind && got != api.Null {
			return wrong{x.At, api.ErrKind, "a set's kind"}
		}
	}
	return wrong{}
}

// holdModel asks that Check and Vars answer as the model does, and tells what
// it met.
func holdModel(t *testing.T, p api.Program) wrong {
	t.Helper()
	m := model{p}
	w := m.whole()
	if at, e := Check(p); at != w.at || e != w.e {
		s, _ := rprint.Text(p)
		t.Fatalf("Check of\n%s%.2000v\n%v, %d; want %v, %d (%s)", s, p, at, e, w.at, w.e, w.what)
	}
	for i, r := range p.Rules {
		if got, want := Vars(p, r), m.vars(r); !slices.Equal(got, want) {
			t.Fatalf("Vars of rule %d of\n%.2000v\n%v; want %v", i, p, got, want)
		}
	}
	return w
}

// maker makes programs by chance. It has in mind what is bound, so that few
// things are wrong with them; now and then it does as if it had not.
type maker struct {
	*rand.Rand
	wrongs    int // of so many parts one is wrong
	templates []api.Template
	bound     []api.Slot
	facts     []api.Pattern
}

func (m *maker) slips() bool { return m.Intn(m.wrongs) == 0 }

func (m *maker) pick(l ...string) string { return l[m.Intn(len(l))] }

var kindNames = []string{"null", "int", "dec", "str", "bool", "sym"}

func (m *maker) program() string {
	var s strings.Builder
	m.templates = nil
	names := m.Perm(4)
	for i := range 1 + m.Intn(3) {
		t := api.Template{Name: string(rune('a' + names[i]))}
		if m.slips() {
			t.Name = "a"
		}
		s.WriteString("template " + t.Name)
		slots := m.Perm(4)
		for j := range 1 + m.Intn(4) {
			x := api.Slot{Name: string(rune('w' + slots[j])), Kind: uint8(1 + m.Intn(5)*m.Intn(2))}
			if m.slips() && m.slips() {
				x.Name = "x"
			}
			t.Slots = append(t.Slots, x)
			s.WriteString(" " + x.Name + ":" + kindNames[x.Kind])
		}
		s.WriteString("\n")
		m.templates = append(m.templates, t)
	}
	for i := range m.Intn(4) {
		name := string(rune('r' + i))
		if m.slips() && m.slips() {
			name = "r"
		}
		s.WriteString("rule " + name + m.pick("", " 5", " -100") + " when")
		m.bound, m.facts = nil, nil
		for range m.Intn(7) {
			s.WriteString(m.pick("\n", " ", "  ") + m.cond())
		}
		s.WriteString(" then")
		for range m.Intn(4) {
			s.WriteString(m.pick("\n", " ", "  ") + m.action())
		}
		s.WriteString("\nend\n")
	}
	return s.String()
}

// inside writes what binds nothing for what stands behind it.
func (m *maker) inside(write func() string) string {
	bound := slices.Clone(m.bound)
	s := write()
	m.bound = bound
	return s
}

func (m *maker) cond() string {
	pattern := func() string { s, _ := m.pattern(); return s }
	switch k := m.Intn(12); {
	case k < 7 && (len(m.facts) < 4 || m.slips()):
		return m.is()
	case k < 8:
		return "not " + m.inside(pattern)
	case k < 9:
		return "exists " + m.inside(pattern)
	case k < 11:
		return "not (" + m.inside(func() string {
			var l []string
			for range 1 + m.Intn(4) {
				l = append(l, pattern())
			}
			return strings.Join(l, " ")
		}) + ")"
	}
	return "test " + m.expr(api.Bool, false)
}

func (m *maker) is() string {
	name := ""
	if m.Intn(2) == 0 {
		name = m.pick("p", "q", "a", "n")
		used := slices.ContainsFunc(m.facts, func(p api.Pattern) bool { return p.Name == name })
		if used && !m.slips() {
			name = ""
		}
	}
	s, t := m.pattern()
	m.facts = append(m.facts, api.Pattern{Name: name, T: t.Name})
	if name != "" {
		s = name + ": " + s
	}
	return s
}

func (m *maker) pattern() (string, api.Template) {
	t := m.templates[m.Intn(len(m.templates))]
	name := t.Name
	if m.slips() && m.slips() {
		name = m.pick("d", "e", "p")
	}
	var l []string
	for _, i := range m.Perm(len(t.Slots))[:m.Intn(len(t.Slots)+1)] {
		x := t.Slots[i]
		if m.slips() && m.slips() {
			x.Name = m.pick("v", "x", "w")
		}
		l = append(l, x.Name+": "+m.tests(x.Kind))
	}
	return name + "(" + strings.Join(l, ", ") + ")", t
}

// tests writes tests of a slot of that kind.
func (m *maker) tests(kind uint8) string {
	switch m.Intn(8) {
	case 0, 1, 2, 3:
		name := m.pick("n", "m", "k", "x")
		i := slices.IndexFunc(m.bound, func(v api.Slot) bool { return v.Name == name })
		if i < 0 {
			m.bound = append(m.bound, api.Slot{Name: name, Kind: kind})
		} else if m.bound[i].Kind != kind && !m.slips() {
			return "-"
		}
		return fmt.Sprintf(m.pick("?%s", "?%s", "= ?%s", "((?%s))"), name)
	case 4:
		return m.pick("-", "null", "not(null)", "-, null")
	case 5:
		return m.expr(kind, true) + ", " + m.pick("null", m.expr(kind, true))
	case 6:
		if kind <= api.Str {
			return m.pick("> ", "< ", "<= ", ">= ") + m.expr(kind, true)
		}
	}
	return fmt.Sprintf(m.pick("= %s", "not(%s)", "not(not(%s))"), m.expr(kind, true))
}

// expr writes an expression of that kind, or, now and then, of another one.
func (m *maker) expr(kind uint8, self bool) string {
	if m.slips() {
		kind = uint8(1 + m.Intn(5))
	}
	if m.slips() {
		return m.pick("?n", "?m", "?k", "?x", "?", "null", "1", "1 + \"u\"")
	}
	for range 3 {
		if len(m.bound) > 0 {
			if v := m.bound[m.Intn(len(m.bound))]; v.Kind == kind {
				return "?" + v.Name
			}
		}
	}
	if self && m.Intn(4) == 0 {
		return "?"
	}
	l := [][]string{{"null"}, {"1", "2 + 3", "length(\"u\")", "mod(7, 3)"}, {"1.5", "1 + 0.5"}, {"\"u\"", "upper(\"v\")"}, {"true", "1 < 2", "null or false"}, {"#a", "#b"}}[kind]
	return m.pick(append(l, "null")...)
}

func (m *maker) action() string {
	t := m.templates[m.Intn(len(m.templates))]
	switch m.Intn(6) {
	case 0, 1:
		name := t.Name
		if m.slips() && m.slips() {
			name = m.pick("d", "e", "p")
		}
		return m.pick("assert ", "logical ") + name + m.sets(t)
	case 2, 3, 4:
		var named []api.Pattern
		for _, f := range m.facts {
			if f.Name != "" {
				named = append(named, f)
			}
		}
		if m.slips() {
			named = []api.Pattern{{Name: m.pick("p", "q", "a", "n"), T: t.Name}}
		}
		if len(named) == 0 {
			break
		}
		f := named[m.Intn(len(named))]
		i := slices.IndexFunc(m.templates, func(t api.Template) bool { return t.Name == f.T })
		if m.Intn(3) == 0 || i < 0 {
			return "retract " + f.Name
		}
		return "modify " + f.Name + m.sets(m.templates[i])
	}
	return "halt"
}

func (m *maker) sets(t api.Template) string {
	var l []string
	for _, i := range m.Perm(len(t.Slots))[:m.Intn(len(t.Slots)+1)] {
		x := t.Slots[i]
		if m.slips() {
			x.Name = m.pick("v", "w", t.Slots[0].Name)
		}
		l = append(l, x.Name+": "+m.expr(x.Kind, false))
	}
	return "(" + strings.Join(l, ", ") + ")"
}

// P14.1, P14.3: programs by chance, with few faults and with many.
func TestProgramsByChance(t *testing.T) {
	what := map[string]int{}
	for _, wrongs := range []int{3, 6, 12, 40} {
		m := &maker{Rand: rand.New(rand.NewSource(int64(wrongs))), wrongs: wrongs}
		for n := range 800 {
			s := m.program()
			w := holdModel(t, read(t, s))
			if n%4 == 0 {
				holdSource(t, s, w.at, w.e)
			}
			what[fmt.Sprint(w.what, " ", w.e)]++
		}
	}
	for _, x := range []string{
		"none 0", "templates 6", "a template's slots 6", "rules 6", "five patterns 14", "facts 6", "a pattern's template 5", "a pattern's slot 5", "a pattern's slots 6", "a slot's tests 11", "a slot's tests 8", "a variable's kind 8",
		"a test's expression 11", "a test's expression 8", "a test's kind 8", "an action's template 5", "an action's fact 11", "a set's slot 5", "sets 6", "a set's expression 11", "a set's expression 8", "a set's kind 8",
	} {
		if what[x] < 5 {
			t.Errorf("few programs with that: %s: %v", x, what)
		}
	}
}

// another tells a well-formed program's neighbour, which has to be so, too: it
// has a template more behind, a rule more of another name, or a rule less.
func another(p api.Program, r *rand.Rand) (api.Program, string) {
	q := p
	switch k := r.Intn(4); {
	case k == 0:
		q.Templates = append(slices.Clone(p.Templates), api.Template{Name: "other", Slots: []api.Slot{{Name: "x", Kind: api.Str}, {Name: "w", Kind: api.Bool}}})
		return q, "a template more"
	case k == 1 || len(p.Rules) == 0:
		q.Rules = slices.Insert(slices.Clone(p.Rules), r.Intn(len(p.Rules)+1), api.Rule{Name: "other", Salience: 1, Acts: []api.Action{{Kind: api.ActHalt}}})
		return q, "a rule more"
	case k == 2:
		i := r.Intn(len(p.Rules))
		x := p.Rules[i]
		x.Name = "other"
		q.Rules = slices.Insert(slices.Clone(p.Rules), r.Intn(len(p.Rules)+1), x)
		return q, "a rule once more"
	}
	i := r.Intn(len(p.Rules))
	q.Rules = slices.Delete(slices.Clone(p.Rules), i, i+1)
	return q, "a rule less"
}

// What follows: a rule that is well-formed stays so, with its variables,
// whatever templates stand behind, and whatever rules of other names.
func TestWhatStaysWellFormed(t *testing.T) {
	m := &maker{Rand: rand.New(rand.NewSource(15)), wrongs: 40}
	what := map[string]int{}
	for range 500 {
		p := read(t, m.program())
		if _, e := Check(p); e != api.OK {
			continue
		}
		q, change := another(p, m.Rand)
		what[change]++
		holdCheck(t, q, api.Place{}, api.OK, change)
		for _, r := range p.Rules {
			alone := api.Program{Templates: q.Templates, Rules: []api.Rule{r}}
			holdCheck(t, alone, api.Place{}, api.OK, "a rule alone")
			if l := Vars(p, r); !slices.Equal(l, Vars(q, r)) || !slices.Equal(l, Vars(alone, r)) {
				t.Fatalf("%v, %v, %v", l, Vars(q, r), Vars(alone, r))
			}
		}
	}
	if len(what) < 4 || what["a rule less"] < 20 {
		t.Errorf("few programs: %v", what)
	}
}

// full is a well-formed program with each part that one may have.
const full = `template a x:int y:int
template b z:dec s:str k:sym t:bool
rule q -5 when then halt end
rule r 7
when
  p: a(x: ?n, y: > ?n + 1, not(-, [1 .. ?n)))
  q: b(s: ?s, k: #u)
  not a(x: ?m, y: ?m)
  exists b(z: ?z, t: -)
  not (a(x: ?k) b(z: = ?k, (?k .. 5], s: ?s))
  test ?n > 1 and length(?s) = 2
then
  assert a(x: ?n, y: null)
  logical b(s: upper(?s), t: ?n = 1)
  modify p(x: if(?n < 0, 1, ?n))
  retract q
end
`

// parts tells all parts of a program that can be set, lists and what is in them.
func parts(v reflect.Value) []reflect.Value {
	l := []reflect.Value{v}
	switch v.Kind() {
	case reflect.Struct:
		for i := range v.NumField() {
			l = append(l, parts(v.Field(i))...)
		}
	case reflect.Slice:
		for i := range v.Len() {
			l = append(l, parts(v.Index(i))...)
		}
	}
	return l
}

func partsOf(p *api.Program) []reflect.Value { return parts(reflect.ValueOf(p).Elem()) }

// anyOther tells expressions and tests that may stand for one of them.
func anyOther(t reflect.Type) []reflect.Value {
	var l []reflect.Value
	for _, v := range []string{"1", "?n", "null"} {
		x, _, _ := expr.Read(v)
		u := api.Tests{{Op: api.TestEq, A: x}}
		for _, v := range []reflect.Value{reflect.ValueOf(x), reflect.ValueOf(u)} {
			if v.Type() == t {
				l = append(l, v)
			}
		}
	}
	return l
}

// changes tells by what one part alone is made another one.
func changes(v reflect.Value) []func() {
	var l []func()
	switch v.Kind() {
	case reflect.String:
		for _, s := range []string{"", "a", "q", "x", "n"} {
			l = append(l, func() { v.SetString(s) })
		}
	case reflect.Int, reflect.Int64:
		for _, n := range []int64{101, v.Int() - 1} {
			l = append(l, func() { v.SetInt(n) })
		}
	case reflect.Uint8:
		for _, n := range []uint64{0, 1, 2, 3, 4, 5, 6, 9} {
			l = append(l, func() { v.SetUint(n) })
		}
	case reflect.Bool:
		l = append(l, func() { v.SetBool(!v.Bool()) })
	case reflect.Slice:
		l = append(l, func() { v.Set(reflect.Append(v, reflect.Zero(v.Type().Elem()))) }, func() { v.Set(reflect.Zero(v.Type())) })
		if n := v.Len(); n > 0 {
			first := v.Index(0)
			l = append(l, func() { v.Set(v.Slice(0, n-1)) }, func() { v.Set(v.Slice(1, n)) }, func() { v.Set(reflect.Append(v, first)) })
		}
		for _, x := range anyOther(v.Type()) {
			l = append(l, func() { v.Set(x) })
		}
	}
	return l
}

// P14.1, P14.3: a program with one part alone another one is answered as the
// model does, whichever part it is: some may not be, and have no place then.
func TestEachPartChanged(t *testing.T) {
	what := map[string]int{}
	all := read(t, full)
	for i, of := range partsOf(&all) {
		for k := range changes(of) {
			p := read(t, full)
			changes(partsOf(&p)[i])[k]()
			what[holdModel(t, p).what]++
		}
	}
	for _, x := range []string{"none", "may not be", "templates", "a template's slots", "rules", "facts", "a pattern's template", "a pattern's slot", "a pattern's slots", "a slot's tests", "a test's expression", "a test's kind", "an action's template", "an action's fact", "a set's slot", "sets", "a set's expression", "a set's kind"} {
		if what[x] == 0 {
			t.Errorf("no change with that: %s: %v", x, what)
		}
	}
}

// anything fills v by its type alone.
func (m *maker) anything(v reflect.Value) {
	switch v.Kind() {
	case reflect.Struct:
		for i := range v.NumField() {
			m.anything(v.Field(i))
		}
	case reflect.Slice:
		if l := anyOther(v.Type()); len(l) > 0 && m.Intn(2) == 0 {
			v.Set(l[m.Intn(len(l))])
			return
		}
		v.Set(reflect.MakeSlice(v.Type(), m.Intn(4), 4))
		for i := range v.Len() {
			m.anything(v.Index(i))
		}
	case reflect.String:
		v.SetString(m.pick("", "a", "a", "a", "a", "b", "\xff"))
	case reflect.Int, reflect.Int64:
		v.SetInt(int64(m.Intn(4)-1) << m.Intn(63))
	case reflect.Uint8:
		v.SetUint(uint64([]int{0, 1, 1, 1, 1, 2, 3, 4, 5, 6, 255}[m.Intn(11)]))
	case reflect.Bool:
		v.SetBool(m.Intn(2) == 0)
	}
}

// P14.1, P14.3, P1: any programs, and any rules beside any programs.
func TestAnyPrograms(t *testing.T) {
	m := &maker{Rand: rand.New(rand.NewSource(14))}
	some := 0
	for range 2000 {
		var p, q api.Program
		m.anything(reflect.ValueOf(&p).Elem())
		m.anything(reflect.ValueOf(&q).Elem())
		holdModel(t, p)
		for _, r := range q.Rules {
			got, want := Vars(p, r), model{p}.vars(r)
			if !slices.Equal(got, want) {
				t.Fatalf("Vars(%v, %v) = %v; want %v", p, r, got, want)
			}
			some += len(got)
		}
	}
	if some < 40 {
		t.Errorf("but %d variables", some)
	}
}
