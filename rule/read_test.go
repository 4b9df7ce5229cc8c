package rule

import (
	"fmt"
	"strings"
	"testing"

	"witan/api"
	"witan/eprint"
	"witan/unary"
)

// show tells a place as a test writes it.
func show(p api.Place) string { return fmt.Sprintf("%d:%d", p.Line, p.Col) }

// showExpr tells an expression by layer 8's text and its whole's place.
func showExpr(x api.Expr) string {
	s, e := eprint.Text(x)
	if e != api.OK {
		return "no expression"
	}
	return s + "@" + show(x[len(x)-1].At)
}

func showTests(l api.Tests) string {
	s, e := unary.Text(l)
	if e != api.OK {
		return "no tests"
	}
	return s + "@" + show(l[len(l)-1].At)
}

func showPattern(p api.Pattern) string {
	s := " " + p.T + "@" + show(p.At)
	if p.Name != "" {
		s = " " + p.Name + "=" + s[1:]
	}
	for _, x := range p.Slots {
		s += " " + x.Slot + "@" + show(x.At) + "[" + showTests(x.Test) + "]"
	}
	return s
}

// The names that tests here give to kinds, by api's numbers.
var (
	slotKinds   = []string{"?", "int", "dec", "str", "bool", "sym", "?"}
	condKinds   = []string{"?", "is", "not", "exists", "none", "test", "?"}
	actionKinds = []string{"?", "assert", "logical", "modify", "retract", "halt", "?"}
)

func kindIn(l []string, kind uint8) string { return l[min(int(kind), len(l)-1)] }

// dump tells all of a program, a part a line, with all places.
func dump(p api.Program) string {
	var l []string
	if len(p.At) != len(p.Templates) {
		return fmt.Sprintf("%d templates of %d places", len(p.Templates), len(p.At))
	}
	for i, t := range p.Templates {
		s := "template " + t.Name + "@" + show(p.At[i])
		for _, x := range t.Slots {
			s += " " + x.Name + ":" + kindIn(slotKinds, x.Kind)
		}
		l = append(l, s)
	}
	for _, r := range p.Rules {
		l = append(l, fmt.Sprintf("rule %s@%s %d", r.Name, show(r.At), r.Salience))
		for _, c := range r.Conds {
			s := kindIn(condKinds, c.Kind) + "@" + show(c.At)
			for _, p := range c.Patterns {
				s += showPattern(p)
			}
			if len(c.Test) > 0 {
				s += " " + showExpr(c.Test)
			}
			l = append(l, s)
		}
		for _, a := range r.Acts {
			s := kindIn(actionKinds, a.Kind) + "@" + show(a.At)
			if a.Name != "" {
				s += " " + a.Name
			}
			for _, x := range a.Sets {
				s += " " + x.Slot + "@" + show(x.At) + "[" + showExpr(x.E) + "]"
			}
			l = append(l, s)
		}
	}
	return strings.Join(l, "\n")
}

// hold asks that s is read as a program of these parts.
func hold(t *testing.T, s string, want ...string) {
	t.Helper()
	p, at, e := Parse(s)
	if got := dump(p); got != strings.Join(want, "\n") || at != (api.Place{}) || e != api.OK {
		t.Errorf("Parse(%.500q): %v, %d:\n%s\nwant:\n%s", s, at, e, got, strings.Join(want, "\n"))
	}
}

// marked tells a text without the ^ that stands in it once, and its place.
func marked(t *testing.T, s string) (string, api.Place) {
	t.Helper()
	ahead, behind, ok := strings.Cut(s, "^")
	if !ok || strings.Contains(behind, "^") {
		t.Fatalf("no place is marked in %q", s)
	}
	line := strings.Count(ahead, "\n")
	return ahead + behind, api.Place{Line: line + 1, Col: len(ahead) - strings.LastIndex(ahead, "\n")}
}

// refuse asks that s is refused with that error, at the place that is marked in it.
func refuse(t *testing.T, s string, want api.Errno) {
	t.Helper()
	s, place := marked(t, s)
	p, at, e := Parse(s)
	if e != want || at != place || dump(p) != "" || len(p.At) > 0 {
		t.Errorf("Parse(%.500q) = %v, %v, %d; want %v, %d", s, dump(p), at, e, place, want)
	}
}

// P12.1: the examples of the chapter and of the document.
func TestExamples(t *testing.T) {
	hold(t, "rule r when then halt end", "rule r@1:1 0", "halt@1:18")
	refuse(t, "rule r ^101 when then end", api.ErrForm)
	refuse(t, "template a x:int y^", api.ErrForm)
	hold(t, "rule r when a(x: ?n) then logical b(z: ?n) end",
		"rule r@1:1 0", "is@1:13 a@1:13 x@1:15[?n@1:18]", "logical@1:27 b z@1:37[?n@1:40]")
	hold(t, "rule r when not b() then assert b(z: 1) end",
		"rule r@1:1 0", "not@1:13 b@1:17", "assert@1:26 b z@1:35[1@1:38]")
	hold(t, "rule r when p: a(x: ?n) then modify p(x: ?n + 1) end",
		"rule r@1:1 0", "is@1:13 p=a@1:16 x@1:18[?n@1:21]", "modify@1:30 p x@1:39[?n + 1@1:45]")
	hold(t, "rule r when a(x: ?n) a(x: > ?n) then halt end",
		"rule r@1:1 0", "is@1:13 a@1:13 x@1:15[?n@1:18]", "is@1:22 a@1:22 x@1:24[> ?n@1:27]", "halt@1:38")
}

// P12.1: templates.
func TestTemplates(t *testing.T) {
	hold(t, "template a x:int", "template a@1:1 x:int")
	hold(t, "template a v:int w:dec x:str y:bool z:sym", "template a@1:1 v:int w:dec x:str y:bool z:sym")
	hold(t, "template a x:int template b y:str", "template a@1:1 x:int", "template b@1:18 y:str")
	hold(t, "template a x:int\ntemplate a\n x:int x:str", "template a@1:1 x:int", "template a@2:1 x:int x:str")
	hold(t, "template int int:int dec:dec str:str bool:bool sym:sym", "template int@1:1 int:int dec:dec str:str bool:bool sym:sym")
	hold(t, "template templates rules:int", "template templates@1:1 rules:int")
	hold(t, "template abcdefghijkl x1234567890z:int", "template abcdefghijkl@1:1 x1234567890z:int")

	for _, s := range []string{
		"template^", "template ^1 x:int", "template ^X", "template ^: x:int", "template ^?a x:int", "template ^#a x:int", "template ^\"a\" x:int",
		"template ^template x:int", "template ^rule x:int", "template ^null x:int", "template ^row x:int",
		"template a^", "template a ^rule r when then end", "template a ^template b x:int", "template a ^: x", "template a ^1:int", "template a ^?x:int", "template a ^\"x\":int", "template a ^not:int", "template a ^(x:int)",
		"template a x^", "template a x ^int", "template a x ^rule", "template a x ^y:int", "template a x^=int", "template a x ^\":\" int", "template a x:^", "template a x:^:int",
		"template a x:^rule r when then end", "template a x:^null", "template a x:^number", "template a x:^ints", "template a x:^\"int\"", "template a x:^#int", "template a x:^?int", "template a x:^1", "template a x:^-", "template a x:^a",
		"template a x:int ^1", "template a x:int ^:", "template a x:int ^, y:int", "template a x:int y:int ^when", "template a x:int ^end", "template a x:int ^\"rule\" r when then end", "template a x:int ^#template",
		"template a x:int y:int z:int template^", "template a x:int template b^",
	} {
		refuse(t, s, api.ErrForm)
	}
}

// P12.1: rules beside templates, and neither.
func TestPrograms(t *testing.T) {
	for _, s := range []string{"", " ", "\n", "   \n\n ", ";", "; a remark", ";\n", ";a rule r when then end\n ; template a x:int\n;", "\n;;^%\x00\xff\n"} {
		hold(t, s)
	}
	hold(t, "template a x:int rule r when then end", "template a@1:1 x:int", "rule r@1:18 0")
	hold(t, "template a x:int template b x:int rule r when then end rule s when then end",
		"template a@1:1 x:int", "template b@1:18 x:int", "rule r@1:35 0", "rule s@1:56 0")
	hold(t, "rule r when then end rule r when then end", "rule r@1:1 0", "rule r@1:22 0")
	hold(t, "rule r when then end", "rule r@1:1 0")

	for _, s := range []string{
		"rule r when then end ^template a x:int", "template a x:int rule r when then end ^template b x:int",
		"^x", "^1", "^a(x: 1)", "^when", "^end", "^(", "^?", "^?rule", "^#rule r when then end", "^\"rule\" r when then end", "^\"template\" a x:int", "^rules", "^:",
		"rule r when then end ^end", "rule r when then end ^r", "rule r when then end ^when", "rule r when then end ;\n^1", "rule r when then end ^\"rule\"", "rule r when then end ^?rule", "rule r when then end ^)",
	} {
		refuse(t, s, api.ErrForm)
	}
}

// P12.1: a rule's name and salience.
func TestSaliences(t *testing.T) {
	for _, x := range []struct {
		written string
		want    int
	}{
		{"", 0}, {"0", 0}, {"-0", 0}, {"- 0", 0}, {"1", 1}, {"-1", -1}, {"- 1", -1}, {"-\n;\n1", -1}, {"7", 7}, {"99", 99}, {"100", 100}, {"-99", -99}, {"-100", -100}, {"- 100", -100},
	} {
		hold(t, "rule r "+x.written+" when then end", fmt.Sprintf("rule r@1:1 %d", x.want))
	}
	for _, s := range []string{
		"rule r ^101 when then end", "rule r -^101 when then end", "rule r - ^101 when then end", "rule r ^9223372036854775807 when then end", "rule r -^9223372036854775807 when then end", "rule r ^4294967297 when then end", "rule r -^4294967396 when then end", "rule r ^65536 when then end", "rule r ^256 when then end",
		"rule r ^1.5 when then end", "rule r ^0.5 when then end", "rule r ^0.01 when then end", "rule r -^0.0001 when then end", "rule r ^0.0 when then end", "rule r -^100.0 when then end", "rule r -^1.5 when then end", "rule r ^101.5 when then end",
		"rule r - ^when then end", "rule r -^", "rule r -^-1 when then end", "rule r - ^- when then end", "rule r ^+1 when then end", "rule r -^+1 when then end", "rule r ^\"1\" when then end", "rule r -^\"1\" when then end", "rule r -^#a when then end", "rule r -^?a when then end", "rule r ^?1 when then end", "rule r ^(1) when then end",
		"rule r 1 ^1 when then end", "rule r 1 ^-1 when then end", "rule r 1^", "rule r^", "rule^", "rule r ^then end", "rule r ^a() then end", "rule r 1 ^then end", "rule r ^\"when\" then end", "rule r ^#when then end", "rule r ^?when then end", "rule r -1 ^whens then end",
		"rule ^rule when then end", "rule ^when then end", "rule ^1 when then end", "rule ^-1 when then end", "rule ^\"r\" when then end", "rule ^#r when then end", "rule ^?r when then end", "rule ^? when then end", "rule ^( when then end", "rule ^in when then end", "rule ^table when then end",
		"rule r ^101", "rule r ^101 when then go end", "rule r ^101 101",
	} {
		refuse(t, s, api.ErrForm)
	}
}

// P12.1: conditions of each kind.
func TestConds(t *testing.T) {
	for _, x := range []struct{ written, want string }{
		{"a()", "is@2:1 a@2:1"},
		{"a( )", "is@2:1 a@2:1"},
		{"p: a()", "is@2:1 p=a@2:4"},
		{"p:a()", "is@2:1 p=a@2:3"},
		{"a:a()", "is@2:1 a=a@2:3"},
		{"a(x: 1)", "is@2:1 a@2:1 x@2:3[1@2:6]"},
		{"p: a(x: 1, y: 2)", "is@2:1 p=a@2:4 x@2:6[1@2:9] y@2:12[2@2:15]"},
		{"a(x: 1, 2, y: 3, 4, 5)", "is@2:1 a@2:1 x@2:3[1, 2@2:6] y@2:12[3, 4, 5@2:15]"},
		{"a(x: -)", "is@2:1 a@2:1 x@2:3[-@2:6]"},
		{"a(x: -, y: -)", "is@2:1 a@2:1 x@2:3[-@2:6] y@2:9[-@2:12]"},
		{"a(x: -, -1, y: not(-, 1))", "is@2:1 a@2:1 x@2:3[-, -1@2:6] y@2:13[not(-, 1)@2:16]"},
		{"a(x: [1 .. 2), y: (?n .. ?m], z: (1))", "is@2:1 a@2:1 x@2:3[[1 .. 2)@2:6] y@2:16[(?n .. ?m]@2:19] z@2:31[1@2:34]"},
		{"a(x: ?n, x: ?n)", "is@2:1 a@2:1 x@2:3[?n@2:6] x@2:10[?n@2:13]"},
		{"a(x: > ?n + 1, y: = \"u\", z: #s)", "is@2:1 a@2:1 x@2:3[> ?n + 1@2:6] y@2:16[\"u\"@2:19] z@2:26[#s@2:29]"},
		{"a(x: length(?) > 2)", "is@2:1 a@2:1 x@2:3[length(?) > 2@2:6]"},
		{"a(x: min(1, ?n), y: null)", "is@2:1 a@2:1 x@2:3[min(1, ?n)@2:6] y@2:18[null@2:21]"},
		{"not a()", "not@2:1 a@2:5"},
		{"not a(x: 1)", "not@2:1 a@2:5 x@2:7[1@2:10]"},
		{"exists a()", "exists@2:1 a@2:8"},
		{"exists a(x: 1, y: not(2))", "exists@2:1 a@2:8 x@2:10[1@2:13] y@2:16[not(2)@2:19]"},
		{"not (a())", "none@2:1 a@2:6"},
		{"not(a(x: 1))", "none@2:1 a@2:5 x@2:7[1@2:10]"},
		{"not (a() b())", "none@2:1 a@2:6 b@2:10"},
		{"not (a(x: ?n) b(y: ?n) c())", "none@2:1 a@2:6 x@2:8[?n@2:11] b@2:15 y@2:17[?n@2:20] c@2:24"},
		{"not (a() a() a() a())", "none@2:1 a@2:6 a@2:10 a@2:14 a@2:18"},
		{"test true", "test@2:1 true@2:6"},
		{"test not true", "test@2:1 not true@2:6"},
		{"test (?n) > 1", "test@2:1 ?n > 1@2:11"},
		{"test ?n + 1 < length(\"u\") or false", "test@2:1 ?n + 1 < length(\"u\") or false@2:27"},
		{"test 5", "test@2:1 5@2:6"},
		{"test ? not a()", "test@2:1 ?@2:6\nnot@2:8 a@2:12"},
		{"test ?n a()", "test@2:1 ?n@2:6\nis@2:9 a@2:9"},
		{"test ?n not (a())", "test@2:1 ?n@2:6\nnone@2:9 a@2:14"},
		{"test 1 test 2", "test@2:1 1@2:6\ntest@2:8 2@2:13"},
		{"p: a() not a() exists a() not (a()) test true", "is@2:1 p=a@2:4\nnot@2:8 a@2:12\nexists@2:16 a@2:23\nnone@2:27 a@2:32\ntest@2:37 true@2:42"},
		{"int() p: str(bool: 1)", "is@2:1 int@2:1\nis@2:7 p=str@2:10 bool@2:14[1@2:20]"},
		{"ends(whens: 1) nots: tests()", "is@2:1 ends@2:1 whens@2:6[1@2:13]\nis@2:16 nots=tests@2:22"},
	} {
		hold(t, "rule r when\n"+x.written+" then end", "rule r@1:1 0", x.want)
		hold(t, "rule q when then end rule r 5 when\n"+x.written+" then halt end", "rule q@1:1 0", "rule r@1:22 5", x.want, "halt@2:"+fmt.Sprint(len(x.written)+7))
	}
	for _, s := range []string{
		"a^", "a ^then end", "a ^) then end", "a ^[] then end", "a ^b() then end", "a ^\"(\" ) then end", "a ^, then end", "a(^", "a(^then end", "a(^, x: 1) then end", "a(^1) then end", "a(^?x) then end", "a(^(x: 1)) then end", "a(^\"x\": 1) then end", "a(^#x: 1) then end", "a(^true: 1) then end", "a(^rule: 1) then end",
		"a(x^) then end", "a(x ^1) then end", "a(x^", "a(x ^= 1) then end", "a(x^, y: 1) then end", "a(x:^) then end", "a(x:^", "a(x:^, y: 1) then end", "a(x: 1^", "a(x: 1 ^y: 2) then end", "a(x: 1 ^2) then end", "a(x: 1^: 2) then end", "a(x: 1 ^then end", "a(x: 1^] then end",
		"a(x: 1, ^) then end", "a(x: 1,^", "a(x: 1, ^then end", "a(x: 1, ^, y: 2) then end", "a(x: 1, ^y) then end", "a(x: 1, ^then: 2) then end", "a(x: 1, y:^) then end", "a(x: 1, y: 2, ^) then end", "a(x: 1, ^true: 2) then end", "a(x: 1, ?y ^: 2) then end", "a(x: 1, \"y\" ^: 2) then end", "a(x: 1, y: 2 ^z: 3) then end",
		"a() ^) then end", "a()^", "a() ^, b() then end", "a() ^end", "a() ^(b()) then end", "a() ^1 then end", "a() ^\"then\" end", "a() ^?then end", "a() ^#then end", "^\"a\"() then end", "^#a() then end", "^?a() then end", "^null() then end", "^and() then end", "^if() then end",
		"p ^then end", "p: ^then end", "p:^", "p: a^: b() then end", "p: ^: a() then end", "p: ^not a() then end", "p: ^exists a() then end", "p: ^test true then end", "p: ^(a()) then end", "p: ^1 then end", "p: ^\"a\"() then end", "p: a ^then end", "p: a^", "p ^= a() then end", "p ^a() then end",
		"^1: a() then end", "^?p: a() then end", "^\"p\": a() then end", "^when: a() then end", "^rule: a() then end", "^: a() then end", "^(a()) then end",
		"not^", "not ^then end", "not ^not a() then end", "not ^exists a() then end", "not ^test true then end", "not p^: a() then end", "not ^1 then end", "not ^\"a\"() then end", "not ^true then end", "not ^?n then end", "not a ^then end", "not a^", "not ^: a() then end", "not ^, a() then end",
		"not (^) then end", "not (^", "not (^then end", "not (^not a()) then end", "not (^(a())) then end", "not (p^: a()) then end", "not (a^) then end", "not (a()^", "not (a() ^then end", "not (a()^, b()) then end", "not (a() ^not b()) then end", "not (a() ^1) then end", "not (a() b() ^exists c()) then end", "not (a() ^test true) then end", "not ^\"(\" a()) then end",
		"exists^", "exists ^then end", "exists ^not a() then end", "exists ^exists a() then end", "exists ^(a()) then end", "exists p^: a() then end", "exists ^1 then end", "exists a ^then end", "exists a^", "exists ^#a() then end",
		"test^", "test ^then end", "test ^test true then end", "test ^exists a() then end", "test ^a() then end", "test not ^a() then end", "test ^) then end", "test 1 ^) then end", "test 1 ^, 2 then end", "test 1 = 2 ^= 3 then end", "test 1 ^end", "test (1 ^then end", "test 1 +^", "test 1 + ^then end", "test length ^then end", "test ^= 1 then end", "test ^[1 .. 2] then end",
	} {
		refuse(t, "rule r when "+s, api.ErrForm)
	}
}

// P12.1: actions of each kind.
func TestActions(t *testing.T) {
	for _, x := range []struct{ written, want string }{
		{"halt", "halt@2:1"},
		{"halt halt", "halt@2:1\nhalt@2:6"},
		{"retract p", "retract@2:1 p"},
		{"retract p retract p", "retract@2:1 p\nretract@2:11 p"},
		{"assert a()", "assert@2:1 a"},
		{"assert a(x: 1)", "assert@2:1 a x@2:10[1@2:13]"},
		{"assert a(x: 1, y: 2)", "assert@2:1 a x@2:10[1@2:13] y@2:16[2@2:19]"},
		{"assert a(x: ?n + 1, y: min(1, 2), z: - 3)", "assert@2:1 a x@2:10[?n + 1@2:16] y@2:21[min(1, 2)@2:24] z@2:35[-3@2:38]"},
		{"assert a(x: ?, x: ?)", "assert@2:1 a x@2:10[?@2:13] x@2:16[?@2:19]"},
		{"logical a()", "logical@2:1 a"},
		{"logical a(x: not true)", "logical@2:1 a x@2:11[not true@2:14]"},
		{"modify p()", "modify@2:1 p"},
		{"modify p(x: (1), y: #s)", "modify@2:1 p x@2:10[1@2:14] y@2:18[#s@2:21]"},
		{"assert int(dec: 1)", "assert@2:1 int dec@2:12[1@2:17]"},
		{"assert a() logical b() modify c() retract d halt", "assert@2:1 a\nlogical@2:12 b\nmodify@2:24 c\nretract@2:35 d\nhalt@2:45"},
		{"halt retract a modify b() logical c() assert d()", "halt@2:1\nretract@2:6 a\nmodify@2:16 b\nlogical@2:27 c\nassert@2:39 d"},
		{"retract halts retract ends", "retract@2:1 halts\nretract@2:15 ends"},
	} {
		hold(t, "rule r when then\n"+x.written+" end", "rule r@1:1 0", x.want)
		hold(t, "rule r when a() then\n"+x.written+"\nend rule s when then halt end", "rule r@1:1 0", "is@1:13 a@1:13", x.want, "rule s@3:5 0", "halt@3:22")
	}
	for _, s := range []string{
		"^then end", "^rule s when then end", "^go end", "^a() end", "^a end", "^not a() end", "^1 end", "^\"halt\" end", "^#halt end", "^?halt end", "^? end", "^( end", "^\"end\"", "^#end", "^?end", "^when", "^test true end", "^exists a() end", "^p: assert a() end", "^halts end", "^template a x:int",
		"halt^", "halt ^a end", "halt ^() end", "halt ^then end", "halt ^, halt end", "halt ^rule s when then end", "halt ^\"end\"",
		"retract^", "retract ^end", "retract ^1 end", "retract ^?p end", "retract ^\"p\" end", "retract ^#p end", "retract ^(p) end", "retract ^halt end", "retract p ^() end", "retract p^, q end", "retract p ^q end", "retract p^: a() end", "retract p^",
		"assert^", "assert ^end", "assert ^1 end", "assert ^?a() end", "assert ^\"a\"() end", "assert ^(x: 1) end", "assert ^logical a() end", "assert a^", "assert a ^end", "assert a ^x: 1 end", "assert a^: b() end", "assert a ^\"(\" ) end", "assert a^[x: 1] end",
		"assert a(^", "assert a(^end", "assert a(^1) end", "assert a(^, x: 1) end", "assert a(^?x: 1) end", "assert a(^true: 1) end", "assert a(x^) end", "assert a(x ^= 1) end", "assert a(x ^1) end", "assert a(x:^) end", "assert a(x: ^> 1) end", "assert a(x: ^[1 .. 2]) end", "assert a(x: ^= 1) end", "assert a(x: -^) end", "assert a(x: -^, y: 1) end", "assert a(x: not (1^, 2)) end",
		"assert a(x: 1^", "assert a(x: 1 ^end", "assert a(x: 1 ^2) end", "assert a(x: 1 ^y: 2) end", "assert a(x: 1 ^.. 2) end", "assert a(x: 1, ^) end", "assert a(x: 1,^", "assert a(x: 1, ^2) end", "assert a(x: 1, y^) end", "assert a(x: 1, y:^) end", "assert a(x: 1, ^, y: 2) end", "assert a(x: 1, ^end: 2) end", "assert a(x: 1)^", "assert a(x: 1) ^) end",
		"logical^", "logical ^end", "logical ^assert a() end", "logical a ^end", "logical a(x: 1, ^) end", "modify^", "modify ^end", "modify p ^end", "modify p^: a() end", "modify p(x: 1, ^) end", "modify p(x: -^) end",
	} {
		refuse(t, "rule r when then "+s, api.ErrForm)
	}
}
