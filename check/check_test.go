package check

import (
	"reflect"
	"strings"
	"testing"

	"witan/api"
	"witan/rule"
)

// head has templates that tests stand on: all has a slot of each kind.
const head = `template a x:int y:int
template b z:int s:str
template all i:int d:dec s:str b:bool y:sym
`

// read is the program of a text that layer 12 takes.
func read(t *testing.T, s string) api.Program {
	t.Helper()
	p, at, e := rule.Parse(s)
	if e != api.OK {
		t.Fatalf("rule.Parse(%.500q): %v, %d", s, at, e)
	}
	return p
}

// marked tells a text without the ^ that stands in it once, and its place.
func marked(t *testing.T, s string) (string, api.Place) {
	t.Helper()
	ahead, behind, ok := strings.Cut(s, "^")
	if !ok || strings.Contains(behind, "^") {
		t.Fatalf("no place is marked in %q", s)
	}
	line := strings.Count(ahead, "\n")
	return ahead + behind, api.Place{Line: line + 1, Col: len(ahead) - strings.LastIndex(ahead, "\n")}
}

// holdCheck asks what Check tells of p.
func holdCheck(t *testing.T, p api.Program, place api.Place, want api.Errno, what string) {
	t.Helper()
	if at, e := Check(p); at != place || e != want {
		t.Errorf("Check of %.600s: %v, %d; want %v, %d", what, at, e, place, want)
	}
}

// isNone tells whether p is the zero value.
func isNone(p api.Program) bool { return p.Templates == nil && p.At == nil && p.Rules == nil }

// holdSource asks what Source tells of s: the program, if there is no error.
func holdSource(t *testing.T, s string, place api.Place, want api.Errno) {
	t.Helper()
	p, at, e := Source(s)
	if at != place || e != want || want != api.OK && !isNone(p) {
		t.Errorf("Source(%.600q): %v, %d, a program %v; want %v, %d", s, at, e, !isNone(p), place, want)
	}
	if q, _, _ := rule.Parse(s); want == api.OK && !reflect.DeepEqual(p, q) {
		t.Errorf("Source(%.600q): %v; want %v", s, p, q)
	}
}

// fine asks that s is well-formed.
func fine(t *testing.T, s string) {
	t.Helper()
	holdCheck(t, read(t, s), api.Place{}, api.OK, s)
	holdSource(t, s, api.Place{}, api.OK)
}

// met asks that of s, which layer 12 reads, that error is told at the place
// that is marked.
func met(t *testing.T, s string, want api.Errno) {
	t.Helper()
	s, place := marked(t, s)
	holdCheck(t, read(t, s), place, want, s)
	holdSource(t, s, place, want)
}

// fineRule and metRule ask so of a rule behind head, from its when on.
func fineRule(t *testing.T, s string) {
	t.Helper()
	fine(t, head+"rule r when "+s+" end")
}

func metRule(t *testing.T, s string, want api.Errno) {
	t.Helper()
	met(t, head+"rule r when "+s+" end", want)
}

// kinds are of each kind its number, its slot in all, and expressions of it,
// none of which has a variable or a self.
var kinds = []struct {
	kind  uint8
	slot  string
	exprs []string
}{
	{api.Int, "i", []string{"1", "-5", "1 + 2", "length(\"u\")", "mod(7, 2)", "if(true, 1, null)", "max(1, null)"}},
	{api.Dec, "d", []string{"1.5", "1 + 0.5", "-1.0", "min(1, 2.0)", "if(false, null, 0.1)"}},
	{api.Str, "s", []string{"\"u\"", "\"\"", "upper(\"u\")", "if(true, \"u\", \"v\")"}},
	{api.Bool, "b", []string{"true", "false", "not true", "1 = 2", "1 < 1.5", "null and null", "starts(\"u\", \"v\")"}},
	{api.Sym, "y", []string{"#a", "if(true, null, #a)"}},
	{api.Null, "", []string{"null", "-null", "null + null", "if(true, null, null)", "abs(null)"}},
}

// P14.1, P14.2: the examples of the chapter and of the document.
func TestExamples(t *testing.T) {
	h := "template a x:int\n"
	fine(t, h+"rule r when a(x: ?n) then assert a(x: ?n + 1) end")
	met(t, h+"rule r when not a(x: ?n) then assert a(x: ^?n) end", api.ErrScope)
	met(t, h+"rule r when a(x: ^\"u\") then halt end", api.ErrKind)

	h += "template b z:int\n"
	for _, s := range []string{
		"rule r when a(x: ?n) then logical b(z: ?n) end",
		"rule r when not b() then logical b(z: 1) end",
		"rule r when not b() then assert b(z: 1) end",
		"rule r when p: a(x: ?n) then modify p(x: ?n + 1) end",
		"rule r when a(x: ?n) then assert b(z: 6 / ?n) end",
		"rule r when a(x: ?n) a(x: > ?n) then halt end",
	} {
		fine(t, h+s)
	}
	met(t, h+"rule r when then assert a(^y: 1) end", api.ErrNone)
}

// P14.1: programs of no templates, no rules, rules of no conditions and actions.
func TestLittle(t *testing.T) {
	for _, s := range []string{
		"", " \n; a remark", "template a x:int", "template a x:int template b x:int", "rule r when then end", "rule r 5 when then halt end rule s -100 when then end",
		"rule r when test true then halt end", "rule r when test null then halt halt end", "template a x:int rule r when then end", "template a x:int rule r when a() then end", "template a x:int rule r when then assert a() end",
	} {
		fine(t, s)
	}
	met(t, "rule r when ^a() then end", api.ErrNone)
	met(t, "rule r when then ^assert a() end", api.ErrNone)
	met(t, "rule r when then ^modify a() end", api.ErrScope)
}

// P14.1: templates.
func TestTemplates(t *testing.T) {
	met(t, "template a x:int ^template a x:int", api.ErrTwice)
	met(t, "template a x:int\n  ^template a y:str z:int", api.ErrTwice)
	met(t, "template a x:int template b x:int ^template a x:int template b x:int", api.ErrTwice)
	met(t, "template a x:int template b x:int ^template b x:int template a x:int", api.ErrTwice)
	met(t, "^template a x:int x:int", api.ErrTwice)
	met(t, "^template a x:int x:str", api.ErrTwice)
	met(t, "^template a x:int y:int x:int", api.ErrTwice)
	met(t, "^template a x:int y:int y:int", api.ErrTwice)
	met(t, "template a x:int ^template b x:int y:int z:int y:bool", api.ErrTwice)
	met(t, "template a x:int y:int ^template b z:int x:int z:int template b x:int", api.ErrTwice)
	met(t, "template b x:int ^template b x:int template a x:int x:int", api.ErrTwice)
	met(t, "^template a x:int x:int template a x:int template a x:int", api.ErrTwice)
	met(t, "template a x:int ^template a x:int x:int", api.ErrTwice)

	fine(t, "template a a:int b:int template b a:str b:str")
	fine(t, "template a x1:int x2:int x:int template a1 x:int template aa x:int")

	// Of each two places one name: in templates, and in slots of one.
	names := strings.Split("a b c d e f g h i j k l m n o p", " ")
	for i := range names {
		for j := range i {
			l := append([]string(nil), names...)
			l[i] = l[j]
			s := "template " + strings.Join(l, " x:int\ntemplate ") + " x:int"
			met(t, replaceNth(s, "template", "^template", i), api.ErrTwice)
			if i < api.MaxSlots {
				met(t, "template z x:int\n^template y "+strings.Join(l[:api.MaxSlots], ":sym ")+":int", api.ErrTwice)
			}
		}
	}
	fine(t, "template "+strings.Join(names, " x:int template ")+" x:int")
	fine(t, "template a "+strings.Join(names[:api.MaxSlots], ":int ")+":int")
}

// replaceNth tells s with its n-th part, from 0 on, replaced.
func replaceNth(s, part, with string, n int) string {
	l := strings.SplitN(s, part, n+2)
	return strings.Join(l[:n+1], part) + with + l[n+1]
}

// P14.1: rules' names.
func TestRules(t *testing.T) {
	met(t, "rule r when then end ^rule r when then end", api.ErrTwice)
	met(t, "rule r when then end\n\n ^rule r 5 when test true then halt end", api.ErrTwice)
	met(t, "rule r when then end rule s when then end ^rule r when then end rule s when then end", api.ErrTwice)
	met(t, "rule r when then end rule s when then end ^rule s when then end rule r when then end", api.ErrTwice)
	met(t, "template a x:int rule r when a() then end rule a when then end ^rule r when a(w: 1) then retract p end", api.ErrTwice)
	fine(t, "template a x:int rule a when then end")
	fine(t, "template a x:int template b x:int rule b when a: a(x: ?a) then modify a(x: ?a) end rule a when b: b(x: ?b) then modify b(x: ?b) end")
	fine(t, "template x x:int rule x when x: x(x: ?x) then modify x(x: ?x) end")
	fine(t, "rule r when then end rule r1 when then end rule rr when then end")

	var names []string
	for i := range api.MaxRules {
		names = append(names, "r"+string(rune('a'+i%26))+string(rune('a'+i/26)))
	}
	for i := range names {
		for j := range i {
			l := append([]string(nil), names...)
			l[i] = l[j]
			s := "rule " + strings.Join(l, " when then end\nrule ") + " when then end"
			met(t, replaceNth(s, "rule", "^rule", i), api.ErrTwice)
		}
	}
	fine(t, "rule "+strings.Join(names, " when then end rule ")+" when then end")

	// Each rule has variables and facts' names of its own.
	met(t, head+"rule r when p: a(x: ?n) then retract p end rule s when then assert a(x: ^?n) end", api.ErrScope)
	met(t, head+"rule r when p: a(x: ?n) then retract p end rule s when then ^retract p end", api.ErrScope)
	met(t, head+"rule r when a(x: ?n) then end rule s when test ^?n > 1 then end", api.ErrScope)
	fine(t, head+"rule r when p: a(x: ?n) then retract p end rule s when p: b(s: ?n) then modify p(s: ?n) end")
	fine(t, head+"rule r when a() a() a() a() then end rule s when a() a() a() a() then end")
}

// patternsAt are conditions in which a pattern stands for %, with no variable
// bound ahead, and more words behind.
var patternsAt = []string{
	"% then", "p: % then", "p:\n  % then", "not % then", "not\n % then", "exists % then", "not (%) then", "not (\n%\n) then", "not (a() %) then", "not (% b()) then", "not (a() b() all() %) then",
	"a() % then", "a(x: 1, y: 2) p: % then", "not a(x: ?n) % then", "exists a(x: ?n) not % then", "not (a(x: ?n) b()) exists % then", "test true % then", "test 1 = 1 not (b() %) then", "a() a() a() % then", "not a() not a() not a() not a() not a() % then",
	"% a(x: ?n) then", "not % a(x: ?n) then assert a(x: ?n)", "% then halt",
}

// P14.1: patterns that stand alone.
func TestPatterns(t *testing.T) {
	for _, c := range patternsAt {
		at := func(s string) string { return strings.ReplaceAll(c, "%", s) }
		for _, s := range []string{
			"a()", "b()", "all()", "a(x: 1)", "a(y: 1)", "a(y: 1, x: 1)", "a(x: -, y: 1, 2)", "b(s: \"u\", z: not(1, 2))", "b(z: null, s: null)", "b(s: < \"u\", z: [1 .. 1.5))", "a(x: 1.5)", "a(x: > 1.5)",
			"all(y: #a, b: true, s: -, d: 1, i: 1.5)", "all(b: ? and true, y: not(-))",
		} {
			fineRule(t, at(s))
		}
		for _, x := range []struct {
			s    string
			want api.Errno
		}{
			{"^c()", api.ErrNone}, {"^c(x: 1)", api.ErrNone}, {"^r()", api.ErrNone}, {"^x(x: ?n)", api.ErrNone}, {"^c(x: 1, x: \"u\", y: > ?n)", api.ErrNone}, {"^al()", api.ErrNone}, {"^alls(i: 1)", api.ErrNone},
			{"a(^w: 1)", api.ErrNone}, {"a(^z: 1)", api.ErrNone}, {"a(x: 1, ^s: \"u\")", api.ErrNone}, {"a(^a: -)", api.ErrNone}, {"a(^w: ?n)", api.ErrNone}, {"a(^w: > ?n)", api.ErrNone}, {"a(^w: 1, w: 1)", api.ErrNone}, {"b(s: -, z: -, ^x: -)", api.ErrNone}, {"a(x: 1,\n ^n: 2)", api.ErrNone},
			{"a(x: 1, ^x: 1)", api.ErrTwice}, {"a(x: 1, y: 1, ^x: 1)", api.ErrTwice}, {"a(y: 1, x: 1, ^x: 1, y: 1)", api.ErrTwice}, {"a(x: -, ^x: -)", api.ErrTwice}, {"a(x: 1, ^x: \"u\")", api.ErrTwice}, {"a(x: 1, ^x: > ?n)", api.ErrTwice}, {"a(x: ?n, ^x: ?n)", api.ErrTwice}, {"a(x: ?n, ^x: ?m)", api.ErrTwice}, {"b(s: \"u\",\n^s: \"v\", s: \"w\")", api.ErrTwice},
			{"a(x: > ^?n)", api.ErrScope}, {"a(x: 1, ^?n)", api.ErrScope}, {"a(x: not(^?n))", api.ErrScope}, {"a(x: -^?k)", api.ErrScope}, {"a(x: [1 .. ^?n])", api.ErrScope}, {"a(x: [^?n .. ?m])", api.ErrScope}, {"a(x: ^?n, 1)", api.ErrScope}, {"a(y: 1, x: < 1 + ^?n)", api.ErrScope}, {"a(x: ?n1, y: > ^?n2)", api.ErrScope}, {"a(x: > ^?m, y: ?m)", api.ErrScope}, {"a(x: ^?n + 1)", api.ErrScope}, {"a(x: > ^?x)", api.ErrScope},
			{"a(x: ^\"u\")", api.ErrKind}, {"a(x: ^true)", api.ErrKind}, {"a(x: ^#a)", api.ErrKind}, {"b(s: ^1)", api.ErrKind}, {"b(s: \"u\", ^1)", api.ErrKind}, {"b(s: \"u\", ^> 1)", api.ErrKind}, {"all(b: ^< true)", api.ErrKind}, {"all(y: ^[#a .. #b])", api.ErrKind}, {"all(i: [1 .. 2], ^[1 .. \"u\"])", api.ErrKind}, {"all(i: not(1, not(^\"u\")))", api.ErrKind}, {"all(i: 1 ^+ \"u\")", api.ErrKind}, {"all(i: 1, ^? > 1)", api.ErrKind}, {"a(y: 1,\nx:\n ^\"u\")", api.ErrKind}, {"a(x: ?n, y: ^\"u\")", api.ErrKind},
		} {
			metRule(t, at(x.s), x.want)
		}
	}
}

// P14.1: self in a slot's tests is of the slot's kind.
func TestSelfInTests(t *testing.T) {
	for _, k := range kinds[:5] {
		for _, c := range []string{"all(%)", "not all(%)", "exists all(%)", "not (all(%))", "a(x: 1) all(s: ?m, %)"} {
			if k.slot == "s" && strings.Contains(c, "s:") {
				continue
			}
			at := func(s string) string { return strings.ReplaceAll(c, "%", k.slot+": "+s) + " then halt" }
			fineRule(t, at("?"))
			fineRule(t, at("not(?)"))
			if k.kind == api.Int || k.kind == api.Dec || k.kind == api.Str {
				fineRule(t, at("> ?"))
				fineRule(t, at("[? .. ?]"))
			} else {
				metRule(t, at("^> ?"), api.ErrKind)
				metRule(t, at("^[? .. ?]"), api.ErrKind)
			}
			for _, o := range kinds {
				for _, x := range o.exprs {
					isNumber := func(kind uint8) bool { return kind == api.Int || kind == api.Dec }
					if o.kind == k.kind || o.kind == api.Null || isNumber(o.kind) && isNumber(k.kind) {
						fineRule(t, at("= "+x))
						fineRule(t, at("-, if(true, ?, ?), "+x))
					} else {
						metRule(t, at("^= "+x), api.ErrKind)
						metRule(t, at("-, not(null, ^= "+x+")"), api.ErrKind)
					}
				}
			}
		}
	}
	metRule(t, "all(s: ?m, i: ? ^+ ?m) then halt", api.ErrKind)
	fineRule(t, "all(i: ?m, d: ? + ?m) then halt")
}

// P14.1: how many patterns are there.
func TestFourAndFive(t *testing.T) {
	for _, s := range []string{
		"a() a() a() a()", "a() b() all() a()", "p: a() q: a() n: a() m: a()", "a() a() not a() a() exists a() a()", "not a() not (a() a() a() a()) a() a() a() a()", "test true a() a() a() a() test true", "not a() not a() not a() exists a() exists a() exists a()", "not (a() a() a() a()) not (a() a() a() a())", "a(x: 1) a(x: 1) a(x: 1) a(x: 1)",
	} {
		fineRule(t, s+" then halt")
	}
	for _, s := range []string{
		"a() a() a() a() ^a()", "a() a() a() a() ^a() a()", "a() a() a() a() ^p: a()", "p: a() q: b() a() a()\n ^n: a()", "a() a() not a() a() a() ^b()", "test true a() a() a() a() ^a()", "a() a() a() a() exists a() ^a()", "a() a() a() a() not (a()) ^a()", "a() a() a() a() test 1 = 1 ^a()",
		// It is told ahead of all else in that condition.
		"a() a() a() a() ^c()", "p: a() a() a() a() ^p: a()", "p: a() a() a() a() ^p: c(x: > ?n)", "a() a() a() a() ^a(w: \"u\")",
	} {
		metRule(t, s+" then halt", api.ErrMany)
		metRule(t, s+" then assert c()", api.ErrMany)
	}
	metRule(t, "a() a() a() ^c() a() then halt", api.ErrNone)
	metRule(t, "a() a() a() a() not ^c() a() then halt", api.ErrNone)
	fineRule(t, "a() a() a() p: a(x: ?n) not a(x: > ?n) then modify p(x: ?n)")
}

// P14.1: facts' names.
func TestFactNames(t *testing.T) {
	for _, s := range []string{
		"p: a() then retract p", "p: a() then modify p()", "p: a() q: b() then retract q retract p retract p", "not a() p: a() test true then retract p", "a() p: a() a() then modify p(x: 1)", "a: a() then retract a", "p: a() r: a() then retract r", "n: a(x: ?n) then modify n(x: ?n) retract n",
		"p: a() q: a() pq: a() p1: a() then retract pq retract p1", "p: a() then halt assert a() retract p",
	} {
		fineRule(t, s)
	}
	for _, s := range []string{
		"p: a() p: ^a() then halt", "p: a() p: ^b() then halt", "p: a() q: a() p: ^a() then halt", "p: a() q: a() q: ^a() then halt", "p: a() not a() p:\n\n^a(x: 1) then halt", "a() p: a() a() p: ^a() then halt",
		"p: a() p: ^c() then halt", "p: a() p: ^a(w: 1) then halt", "p: a() p: ^a(x: > ?n) p: a() then halt",
	} {
		metRule(t, s, api.ErrTwice)
	}
	for _, s := range []string{
		"then ^retract p", "then ^modify p(x: 1)", "a() then ^retract p", "a() then ^retract a", "a(x: ?p) then ^retract p", "p: a() then retract p ^retract q", "p: a() then ^modify a(x: 1)", "p: a() then ^modify q()", "p: a() then ^modify pp(w: 1)", "p: a() then halt\n ^retract r", "not a() then ^retract a", "p: a() then ^modify q(w: ?n, w: \"u\")",
		"p: a() then assert all() ^retract all", "p: a() then ^retract x", "a() then ^modify b(z: 1)",
	} {
		metRule(t, s, api.ErrScope)
	}
}

// P14.1: variables, where they are bound and where not.
func TestVariables(t *testing.T) {
	for _, s := range []string{
		"a(x: ?n) then assert a(x: ?n)", "a(x: ?n, y: > ?n) then halt", "a(x: ?n, y: ?n) then halt", "a(x: ?n, y: ?m) a(x: ?m, y: ?n) then assert a(x: ?n, y: ?m)", "a(x: ?n) a(x: > ?n) then halt", "a(x: ?n) test ?n > 1 then assert a(x: ?n)", "a(x: ?n) not a(x: ?n) exists a(y: ?n) not (a(x: ?n)) then halt", "a(x: = ?n) then assert a(x: ?n)", "a(x: (?n)) then assert a(x: ?n)", "a(x: = ((?n))) then assert a(x: ?n)",
		"a(x: ?n) not a(x: ?m, y: > ?n + ?m) then halt", "a(x: ?n) not (a(x: ?m, y: > ?n) b(z: [?n .. ?m])) then halt", "not (a(x: ?n) b(z: ?n)) b(z: ?n) then assert a(x: ?n)", "not (a(x: ?n) b(z: > ?n)) not (a(x: ?n) b(z: > ?n)) then halt", "not (a(x: ?n) a(x: ?m, y: ?n) a(x: > ?n, y: > ?m) a(x: ?m)) then halt",
		"not a(x: ?n) exists a(x: ?n) a(x: ?n) then assert b(z: ?n)", "not a(x: ?n, y: > ?n) then halt", "exists a(x: ?n, y: ?n) then halt", "a(x: 1) a(x: ?n) then assert a(x: ?n, y: ?n)", "a(x: ?n, y: not(?n)) then halt", "a(x: ?n, y: ?n, 1) then halt", "a(x: ?n) a(x: -, y: ?n + 1, ?n) then halt",
		// What was bound inside may be of another kind outside, and in another group.
		"not a(x: ?n) not b(s: ?n) exists all(b: ?n) not (all(y: ?n)) b(s: ?n) then assert b(s: ?n)", "not (a(x: ?n)) not (b(s: ?n) b(s: > ?n)) then halt",
		// A variable may have a name that no slot may have.
		"a(x: ?not, y: > ?not) then assert a(x: ?not)",
	} {
		fineRule(t, s)
	}
	for _, s := range []string{
		// Ahead of where it is bound, in the same pattern and in others.
		"a(x: > ^?n, y: ?n) then halt", "a(x: > ^?n) a(x: ?n) then halt", "test ^?n > 1 a(x: ?n) then halt", "not a(x: > ^?n) a(x: ?n) then halt", "exists a(x: not(^?n)) a(x: ?n) then halt", "not (a(x: > ^?n) b(z: 1)) a(x: ?n) then halt", "not (b(z: > ^?n) a(x: ?n)) then halt", "not (b(z: > ^?n, s: ?m) a(x: ?n)) then halt",
		// Bound inside, asked behind.
		"not a(x: ?n) then assert a(x: ^?n)", "exists a(x: ?n) then assert a(x: ^?n)", "not (a(x: ?n)) then assert a(x: ^?n)", "not (a(x: 1) a(x: ?n)) then assert a(x: ^?n)", "exists a(x: ?n) test ^?n > 1 then halt", "not a(x: ?n) test ^?n > 1 then halt", "not (a(x: ?n)) test ^?n > 1 then halt", "not a(x: ?n) a(x: > ^?n) then halt", "exists a(x: ?n) not a(x: > ^?n) then halt", "not (a(x: ?n)) not (a(x: > ^?n)) then halt", "not (a(x: ?n) b(z: ?n)) exists b(z: 1 + ^?n) then halt",
		"a(x: ?m) not a(x: ?n) a(x: ?m, y: > ^?n) then halt", "exists a(x: ?n) a(x: ?m) then assert a(x: ?m, y: ^?n)",
		// Not a whole test: it binds nothing.
		"a(x: ^?n, 1) then assert a(x: ?n)", "a(x: ^?n, ?n) then halt", "a(x: not(^?n)) then halt", "a(x: -^?n) then halt", "a(x: ^?n + 0) then halt", "a(x: [^?n .. ?n]) then halt", "a(x: -, ^?n) then halt", "a(x: >= ^?n) then halt", "a(x: if(true, ^?n, ?n)) then halt",
		"then assert a(x: ^?n)", "test ^?n then halt", "a(x: ?n) then assert a(x: ^?m)", "a(x: ?n) test ?n = ^?nn then halt", "p: a() then assert a(x: ^?p)", "a() then assert a(x: ^?x)",
	} {
		metRule(t, s, api.ErrScope)
	}
}

// P14.1: a variable that is bound is of one kind.
func TestKindsOfVariables(t *testing.T) {
	numbers := "id"
	for _, k := range kinds[:5] {
		for _, o := range kinds[:5] {
			for _, c := range []string{"all(K: ?v) all(O: ?v)", "all(K: ?v) p: all(O: ?v)", "all(K: ?v) not all(O: ?v)", "all(K: ?v) exists all(O: ?v)", "all(K: ?v) not (all(O: ?v))", "all(K: ?v) not (a() all(O: ?v))", "not (all(K: ?v) all(O: ?v))", "not (all(K: ?v) a() all(O: ?v))", "all(K: ?v) a() test true all(O: ?v)", "all(K: ?v) not all(K: ?v) all(O: ?v)", "all(K: ?v, O: ?v)", "not all(K: ?v, O: ?v)", "exists all(K: ?v, O: ?v)", "not (a() all(K: ?v, O: ?v))", "all(K: ?u) all(K: ?v) all(O: ?v)"} {
				if strings.Contains(c, "K: ?v, O") && k.slot == o.slot {
					continue
				}
				s := strings.ReplaceAll(strings.ReplaceAll(c, "K:", k.slot+":"), "O:", "^"+o.slot+":") + " then halt"
				if k.kind == o.kind {
					fineRule(t, strings.ReplaceAll(s, "^", ""))
				} else {
					metRule(t, s, api.ErrKind)
				}
			}
			// As part of a test it is compared, as layer 11 has it.
			s := "all(" + k.slot + ": ?v) all(" + o.slot + ": ^?v, -) then halt"
			if k.kind == o.kind || strings.Contains(numbers, k.slot) && strings.Contains(numbers, o.slot) {
				fineRule(t, strings.ReplaceAll(s, "^", ""))
			} else {
				metRule(t, s, api.ErrKind)
			}
			// What is set is of the slot's kind.
			for _, a := range []string{"assert all(", "logical all(", "modify p("} {
				s := "p: all(" + k.slot + ": ?v) then " + a + "^" + o.slot + ": ?v)"
				if k.kind == o.kind {
					fineRule(t, strings.ReplaceAll(s, "^", ""))
				} else {
					metRule(t, s, api.ErrKind)
				}
			}
		}
		// A test's kind, by the variable's.
		s := "all(" + k.slot + ": ?v) ^test ?v then halt"
		if k.kind == api.Bool {
			fineRule(t, strings.ReplaceAll(s, "^", ""))
		} else {
			metRule(t, s, api.ErrKind)
		}
	}
}

// P14.1: conditions that are tests.
func TestTests(t *testing.T) {
	for _, k := range kinds {
		for _, x := range k.exprs {
			for _, c := range []string{"^test % then halt", "a() ^test % a() then halt", "test true\n ^test % then halt", "not a() exists a() not (a()) ^test % then assert a()"} {
				s := strings.ReplaceAll(c, "%", x)
				if k.kind == api.Bool || k.kind == api.Null {
					fineRule(t, strings.ReplaceAll(s, "^", ""))
				} else {
					metRule(t, s, api.ErrKind)
				}
			}
		}
	}
	for _, s := range []string{"test ^? then halt", "test ^? = 1 then halt", "test 1 = ^? then halt", "a(x: ?n) test ?n > ^? then halt", "a(x: ?) test not ^? then halt", "test if(true, true, ^?) then halt", "a(x: ?n) test ?n = ^?m then halt", "test ^?n or 1 then halt", "test length(^?) then halt"} {
		metRule(t, s, api.ErrScope)
	}
	for _, s := range []string{"test 1 ^= \"u\" then halt", "test 1 ^+ \"u\" then halt", "test true ^and 1 then halt", "a(x: ?n) test ^not ?n then halt", "a(x: ?n) test ?n ^= true then halt", "test ^if(1, 2, 3) then halt", "test ^length(1) then halt", "b(s: ?s, z: ?z) test ?s ^< ?z then halt"} {
		metRule(t, s, api.ErrKind)
	}
	fineRule(t, "b(s: ?s, z: ?z) test length(?s) < ?z and starts(?s, \"u\") then halt")
}

// P14.1: assert and logical.
func TestAsserts(t *testing.T) {
	for _, a := range []string{"assert", "logical"} {
		for _, s := range []string{"a()", "a(x: 1)", "a(y: 1, x: 2)", "a(x: null, y: null)", "b(s: \"u\")", "all(y: #a, b: true, s: \"u\", d: 1.5, i: 1)"} {
			fineRule(t, "then "+a+" "+s)
			fineRule(t, "p: b(z: ?n) then halt "+a+" "+s+" retract p")
		}
		for _, x := range []struct {
			s    string
			want api.Errno
		}{
			{"^% c()", api.ErrNone}, {"^% p()", api.ErrNone}, {"^% x(x: 1)", api.ErrNone}, {"^% r()", api.ErrNone}, {"^% c(x: ?n, x: ?)", api.ErrNone},
			{"% a(^w: 1)", api.ErrNone}, {"% a(^z: 1)", api.ErrNone}, {"% a(x: 1, ^w: 1)", api.ErrNone}, {"% b(s: \"u\", z: 1, ^y: 1)", api.ErrNone}, {"% a(^w: ?n)", api.ErrNone}, {"% a(^w: \"u\" + 1)", api.ErrNone}, {"% a(^w: 1, w: 1)", api.ErrNone}, {"% a(^p: 1)", api.ErrNone},
			{"% a(x: 1, ^x: 1)", api.ErrTwice}, {"% a(x: 1, y: 1, ^x: 1)", api.ErrTwice}, {"% a(x: 1, ^x: \"u\")", api.ErrTwice}, {"% a(x: 1, ^x: ?n)", api.ErrTwice}, {"% a(x: null, ^x: null, x: 1)", api.ErrTwice}, {"% a(y: 1, x: 1,\n ^x: 1, y: 1)", api.ErrTwice},
			{"% a(x: ^?n)", api.ErrScope}, {"% a(x: 1, y: 1 + ^?n)", api.ErrScope}, {"% a(x: ^?)", api.ErrScope}, {"% a(x: 1 + abs(^?))", api.ErrScope}, {"% a(x: ^? = 1)", api.ErrScope}, {"% b(s: ^?n)", api.ErrScope}, {"% a(x: ^?x)", api.ErrScope},
			{"% a(x: 1 ^+ \"u\")", api.ErrKind}, {"% a(x: ^-\"u\")", api.ErrKind}, {"% a(y: 1, x: (1 ^= \"u\") = true)", api.ErrKind},
			{"% a(^x: \"u\")", api.ErrKind}, {"% a(^x: 1.5)", api.ErrKind}, {"% a(x: 1, ^y: 2 / 1.0)", api.ErrKind}, {"% b(^s: #u)", api.ErrKind}, {"% all(^d: 1)", api.ErrKind}, {"% a(\n ^x: true, y: ?n)", api.ErrKind},
		} {
			s := strings.ReplaceAll(x.s, "%", a)
			metRule(t, "then "+s, x.want)
			metRule(t, "p: a() q: b(z: ?m) then "+s+" halt", x.want)
			metRule(t, "not a(x: ?n) then halt "+s+" retract p", x.want)
		}
	}
}

// P14.1: modify, by the template of the fact that is named, and retract.
func TestModifies(t *testing.T) {
	for _, s := range []string{
		"p: a() then modify p(x: 1)", "p: a() then modify p(y: 1, x: null)", "p: a() q: b() then modify q(z: 1, s: \"u\") modify p(x: 1)", "q: b() p: a(x: ?n) then modify p(y: ?n)", "p: b() then modify p(s: null)", "p: a(x: ?n) then modify p(y: ?n) retract p", "b: a() then modify b(x: 1)", "p: all(b: ?v) then modify p(b: not ?v)", "a() b() p: all() then modify p(y: #a)",
	} {
		fineRule(t, s)
	}
	for _, x := range []struct {
		s    string
		want api.Errno
	}{
		{"p: a() then modify p(^z: 1)", api.ErrNone}, {"p: a() then modify p(x: 1, ^s: \"u\")", api.ErrNone}, {"p: a() q: b() then modify p(^z: 1)", api.ErrNone}, {"p: a() q: b() then modify q(^x: 1)", api.ErrNone}, {"p: b() a() then modify p(^x: 1)", api.ErrNone}, {"b: a() then modify b(^z: 1)", api.ErrNone}, {"p: a() then modify p(^p: 1)", api.ErrNone},
		{"p: a() then modify p(x: 1, ^x: 1)", api.ErrTwice}, {"p: a() then modify p(x: 1, y: 1, ^x: \"u\")", api.ErrTwice},
		{"p: a() then modify p(x: ^?n)", api.ErrScope}, {"p: a() then modify p(x: ^? + 1)", api.ErrScope}, {"p: a() then modify p(x: ^?p)", api.ErrScope}, {"p: a() then modify p(x: ^?x)", api.ErrScope},
		{"p: a() then modify p(^x: \"u\")", api.ErrKind}, {"p: a() q: b() then modify q(z: 1, ^s: 1)", api.ErrKind}, {"p: a() then modify p(x: 1 ^+ \"u\")", api.ErrKind}, {"p: all() then modify p(i: 1, ^d: 1)", api.ErrKind},
	} {
		metRule(t, x.s, x.want)
		metRule(t, x.s+" retract q", x.want)
		metRule(t, strings.Replace(x.s, "then ", "then halt\n", 1), x.want)
	}
	// Two actions may set one slot.
	fineRule(t, "p: a() then modify p(x: 1) modify p(x: 1) assert a(x: 1) assert a(x: 1)")
}

// P14.1: kinds of what is set.
func TestKindsOfSets(t *testing.T) {
	for _, slot := range kinds[:5] {
		for _, k := range kinds {
			for _, x := range k.exprs {
				for _, a := range []string{"assert all(", "logical all(", "modify p("} {
					s := "p: all() then " + a + "^" + slot.slot + ": " + x + ")"
					if k.kind == slot.kind || k.kind == api.Null {
						fineRule(t, strings.ReplaceAll(s, "^", ""))
					} else {
						metRule(t, s, api.ErrKind)
					}
				}
			}
		}
	}
}
