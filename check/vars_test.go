package check

import (
	"fmt"
	"slices"
	"strings"
	"testing"

	"witan/api"
	"witan/unary"
)

// said tells variables as a test writes them.
func said(l []api.Slot) string {
	var s []string
	for _, v := range l {
		s = append(s, fmt.Sprintf("%s:%d", v.Name, v.Kind))
	}
	return strings.Join(s, " ")
}

// holdVars asks for the variables of a rule.
func holdVars(t *testing.T, p api.Program, r api.Rule, want string) {
	t.Helper()
	if got := said(Vars(p, r)); got != want {
		t.Errorf("Vars(%.500v, %.500v) = %.500s; want %.500s", p, r, got, want)
	}
}

// P14.3: of a rule of a well-formed program.
func TestVars(t *testing.T) {
	for _, x := range []struct{ when, want string }{
		{"", ""}, {"a()", ""}, {"a(x: 1, y: -)", ""}, {"a(x: ?n)", "n:1"}, {"p: a(x: ?n)", "n:1"}, {"a(x: = ?n)", "n:1"}, {"a(x: ((?n)))", "n:1"},
		{"all(i: ?a, d: ?b, s: ?c, b: ?d, y: ?e)", "a:1 b:2 c:3 d:4 e:5"}, {"all(y: ?a, b: ?b, s: ?c, d: ?d, i: ?e)", "a:5 b:4 c:3 d:2 e:1"},
		{"a(x: ?n, y: ?m)", "n:1 m:1"}, {"a(x: ?m, y: ?n)", "m:1 n:1"}, {"a(y: ?n, x: ?m)", "n:1 m:1"}, {"b(s: ?z, z: ?s)", "z:3 s:1"},
		{"a(x: ?n, y: ?n)", "n:1"}, {"a(x: ?n) a(x: ?n) b(z: ?n)", "n:1"}, {"a(x: ?n) b(s: ?s, z: ?n) a(y: ?m)", "n:1 s:3 m:1"}, {"b(s: ?m) a(x: ?n)", "m:3 n:1"},
		{"not a(x: ?n)", ""}, {"exists a(x: ?n)", ""}, {"not (a(x: ?n))", ""}, {"not (a(x: ?n) b(s: ?s))", ""}, {"test true", ""},
		{"not a(x: ?n) b(s: ?n)", "n:3"}, {"exists a(x: ?n) b(s: ?m) not (a(x: ?n) b(s: ?k))", "m:3"}, {"a(x: ?n) not a(x: ?m, y: ?n) b(z: ?k)", "n:1 k:1"},
		{"a(x: ?n) a(x: > ?n, y: ?m)", "n:1 m:1"}, {"a(x: ?n, y: not(?n))", "n:1"}, {"a(x: ?n, y: ?n, 1)", "n:1"}, {"a(x: ?n, y: ?n + 0)", "n:1"},
		{"a(x: ?n) test ?n = 1 b(s: ?true)", "n:1 true:3"}, {"a(x: ?x, y: ?y) b(z: ?z)", "x:1 y:1 z:1"}, {"p: a(x: ?p) q: a(x: ?q)", "p:1 q:1"},
	} {
		for _, then := range []string{"then halt", "then assert a() assert b(z: null)", "then"} {
			s := head + "rule q when a(x: ?k) b(s: ?l) then end rule r when " + x.when + " " + then + " end rule s when b(s: ?n) then end"
			fine(t, s)
			p := read(t, s)
			holdVars(t, p, p.Rules[0], "k:1 l:3")
			holdVars(t, p, p.Rules[1], x.want)
			holdVars(t, p, p.Rules[2], "n:3")
		}
	}
	holdVars(t, api.Program{}, api.Rule{}, "")

	// As many as there may be.
	var slots, wants, conds []string
	for i := range 4 {
		var tests []string
		for j := range 8 {
			tests = append(tests, fmt.Sprintf("s%d: ?v%d%d", 7-j, i, j))
			wants = append(wants, fmt.Sprintf("v%d%d:%d", i, j, 1+(7-j)%5))
		}
		conds = append(conds, "a("+strings.Join(tests, ", ")+")")
	}
	for j := range 8 {
		slots = append(slots, fmt.Sprintf("s%d:%s", j, kindNames[1+j%5]))
	}
	s := "template a " + strings.Join(slots, " ") + " rule r when " + strings.Join(conds, " ") + " then end"
	fine(t, s)
	p := read(t, s)
	holdVars(t, p, p.Rules[0], strings.Join(wants, " "))
}

// P14.3: of rules of other programs, as far as templates and slots are there.
func TestVarsOfOthers(t *testing.T) {
	for _, x := range []struct{ when, want string }{
		// Templates, slots that are not there.
		{"c(x: ?n)", ""}, {"c(x: ?n) a(x: ?m)", "m:1"}, {"a(x: ?m) c(x: ?n) b(s: ?k)", "m:1 k:3"}, {"c(x: ?n) b(s: ?n)", "n:3"}, {"a(w: ?n)", ""}, {"a(w: ?n, x: ?m)", "m:1"}, {"a(x: ?m, s: ?n, y: ?k)", "m:1 k:1"}, {"a(w: ?n) b(s: ?n)", "n:3"}, {"a(w: ?n, x: ?n)", "n:1"},
		// Other things that are wrong: what is bound first is bound.
		{"a(x: ?n) b(s: ?n)", "n:1"}, {"b(s: ?n) a(x: ?n, y: ?m)", "n:3 m:1"}, {"a(x: ?n, x: ?m)", "n:1 m:1"}, {"a(x: > ?n, y: ?n)", "n:1"}, {"a(x: > ?n) b(s: ?n)", "n:3"}, {"a(x: \"u\", y: ?m)", "m:1"}, {"test ?n a(x: ?m)", "m:1"}, {"not c(w: ?n) exists a(x: > ?k) not (c() c()) b(s: ?n)", "n:3"},
		{"p: a(x: ?n) p: b(s: ?m)", "n:1 m:3"}, {"a() a() a() a() a(x: ?n)", "n:1"}, {"a(x: ?a) a(x: ?b) a(x: ?c) a(x: ?d) a(x: ?e) b(s: ?f)", "a:1 b:1 c:1 d:1 e:1 f:3"},
	} {
		p := read(t, head+"rule r when "+x.when+" then end")
		if _, e := Check(p); e == api.OK {
			t.Errorf("it is well-formed: %s", x.when)
		}
		holdVars(t, p, p.Rules[0], x.want)
		// Of a rule that stands in no program, or in another one.
		r := p.Rules[0]
		p.Rules = nil
		holdVars(t, p, r, x.want)
		p.Rules = read(t, "rule q when c(z: ?n) then end rule q when then retract p end").Rules
		holdVars(t, p, r, x.want)
		r.Name, r.Salience, r.Acts = "\xff", 1000, []api.Action{{}, {Kind: 99}}
		holdVars(t, p, r, x.want)
		holdVars(t, api.Program{}, r, "")
		holdVars(t, api.Program{Rules: p.Rules}, r, "")
	}

	// Of two templates, of two slots of one name the first one is meant.
	p := read(t, "template a x:int x:str y:sym template a x:bool w:dec template a w:int rule r when a(x: ?n, w: ?m, y: ?k) then end")
	holdVars(t, p, p.Rules[0], "n:1 k:5")
	slices.Reverse(p.Templates)
	holdVars(t, p, p.Rules[0], "m:1")
}

// varTests are tests that are one variable alone.
func varTests(name string) api.Tests {
	return api.Tests{{Op: api.TestEq, A: api.Expr{{Op: api.OpVar, Name: name}}}}
}

// P14.3, P1: of rules and programs that no text is read as.
func TestVarsOfAnything(t *testing.T) {
	one := api.Program{Templates: []api.Template{{Name: "a", Slots: []api.Slot{{Name: "x", Kind: api.Int}, {Name: "y", Kind: api.Str}}}}}
	pattern := func(template string, tests ...string) api.Pattern {
		p := api.Pattern{T: template}
		for i := 0; i < len(tests); i += 2 {
			p.Slots = append(p.Slots, api.SlotTest{Slot: tests[i], Test: varTests(tests[i+1])})
		}
		return p
	}
	n, m := pattern("a", "x", "n"), pattern("a", "y", "m")
	for kind := range 256 {
		want := ""
		if kind == int(api.CondIs) {
			want = "n:1 m:3"
		}
		c := api.Cond{Kind: uint8(kind), Patterns: []api.Pattern{n, m}}
		holdVars(t, one, api.Rule{Conds: []api.Cond{c}}, want)
		c.Test = api.Expr{{Op: api.OpVar, Name: "k"}}
		holdVars(t, one, api.Rule{Conds: []api.Cond{c, c, {Kind: uint8(kind)}}}, want)
	}
	is := func(l ...api.Pattern) api.Cond { return api.Cond{Kind: api.CondIs, Patterns: l} }
	holdVars(t, one, api.Rule{Conds: []api.Cond{is(), is(m), is(), is(n)}}, "m:3 n:1")
	holdVars(t, one, api.Rule{Conds: []api.Cond{is(pattern("a", "x", "", "y", "\xff"))}}, ":1 \xff:3")
	holdVars(t, one, api.Rule{Conds: []api.Cond{is(pattern("", "x", "n"), pattern("a", "", "n"), pattern("A", "x", "n"))}}, "")
	long := strings.Repeat("n", 1<<20)
	holdVars(t, one, api.Rule{Conds: []api.Cond{is(pattern("a", "x", long, "y", long+"m"), pattern(long, "x", "k"), pattern("a", long, "k"))}}, long+":1 "+long+"m:3")
	odd := api.Program{Templates: []api.Template{{}, {Name: "a", Slots: []api.Slot{{Name: "x", Kind: 0}, {Name: "y", Kind: 255}, {}}}}}
	holdVars(t, odd, api.Rule{Conds: []api.Cond{is(pattern("a", "x", "n", "y", "m", "", "k"), pattern("", "x", "l"))}}, "n:0 m:255 k:0")

	// Tests that are not one variable alone.
	for _, u := range []api.Tests{nil, {}, {{}}, {{Op: api.TestEq}}, {{Op: api.TestEq, A: api.Expr{{}}}}, {{Op: api.TestNot, A: varTests("n")[0].A}}, {{Op: api.TestLt, A: varTests("n")[0].A}}, append(varTests("n"), varTests("n")...), {{Op: api.TestEq, A: append(varTests("n")[0].A, varTests("n")[0].A...)}}, {{Op: api.TestEq, A: api.Expr{{Op: api.OpSelf, Name: "n"}}}}} {
		if _, ok := unary.Var(u); ok {
			t.Errorf("a variable alone: %v", u)
		}
		c := is(api.Pattern{T: "a", Slots: []api.SlotTest{{Slot: "x", Test: u}, {Slot: "y", Test: varTests("m")}}})
		holdVars(t, one, api.Rule{Conds: []api.Cond{c}}, "m:3")
	}

	// Very many of all.
	const many = 1 << 15
	slots := slices.Repeat([]api.SlotTest{{Slot: "x", Test: varTests("n")}, {Slot: "none", Test: varTests("m")}, {Slot: "y"}}, many)
	group := slices.Repeat([]api.Pattern{n, m, pattern("none")}, many)
	holdVars(t, one, api.Rule{Conds: []api.Cond{is(api.Pattern{T: "a", Slots: slots})}}, "n:1")
	holdVars(t, one, api.Rule{Conds: []api.Cond{is(group...)}}, "n:1 m:3")
	holdVars(t, one, api.Rule{Conds: slices.Repeat([]api.Cond{is(m), is(n), {}}, many), Acts: make([]api.Action, many)}, "m:3 n:1")
	holdVars(t, api.Program{Templates: append(make([]api.Template, many), one.Templates...), Rules: make([]api.Rule, many), At: make([]api.Place, many)}, api.Rule{Conds: []api.Cond{is(n)}}, "n:1")
	var l []api.Pattern
	for i := range 1 << 12 {
		l = append(l, pattern("a", "x", fmt.Sprint("n", i)))
	}
	if got := Vars(one, api.Rule{Conds: []api.Cond{is(l...), is(l...)}}); len(got) != 1<<12 || got[1<<12-1] != (api.Slot{Name: "n4095", Kind: api.Int}) {
		t.Errorf("%d variables", len(got))
	}
}

// P14.3: what Vars tells may be written over, and is told again; what it is
// handed stays.
func TestVarsAreOnesOwn(t *testing.T) {
	s := head + "rule r when all(i: ?a, s: ?b) not a(x: ?c) b(s: ?d) then assert a(x: ?a) end"
	p := read(t, s)
	l := Vars(p, p.Rules[0])
	for range 3 {
		if said(l) != "a:1 b:3 d:3" {
			t.Fatal(l)
		}
		again := Vars(p, p.Rules[0])
		for i := range l {
			l[i] = api.Slot{Name: "e", Kind: api.Sym}
		}
		_ = append(l, api.Slot{Name: "f"})
		_ = append(l[:0:cap(l)], make([]api.Slot, cap(l))...)
		l = again
	}
	if !same(p, read(t, s)) {
		t.Errorf("%v; want %v", p, read(t, s))
	}
	fine(t, s)
}
