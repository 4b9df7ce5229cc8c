package rprint

import (
	"fmt"
	"strings"
	"testing"

	"witan/api"
	"witan/rule"
)

// read tells the program of a text, which has to be one's.
func read(t *testing.T, s string) api.Program {
	t.Helper()
	p, at, e := rule.Parse(s)
	if e != api.OK {
		t.Fatalf("rule.Parse(%.300q): %v, %d", s, at, e)
	}
	return p
}

// has asks that p has that text, which is read as p, and told again as it is;
// and that each of its rules, by itself, has the text of a program of it alone.
func has(t *testing.T, p api.Program, want string) {
	t.Helper()
	s, e := Text(p)
	if s != want || e != api.OK || !May(p) {
		t.Fatalf("Text = %.2000q, %d, May: %v\nwant   %.2000q", s, e, May(p), want)
	}
	q := read(t, s)
	if !rule.Same(p, q) {
		t.Fatalf("%.2000q is not read as what it was told of", s)
	}
	if again, e := Text(q); again != s || e != api.OK {
		t.Fatalf("Text of what is read of %.2000q = %.2000q, %d", s, again, e)
	}
	for _, r := range p.Rules {
		alone, e := Text(api.Program{Rules: []api.Rule{r}})
		if byItself, f := Rule(r); byItself != alone || f != e || e != api.OK || !strings.Contains(s, alone) {
			t.Fatalf("Rule = %.2000q, %d, a program of it has %.2000q, %d, in %.2000q", byItself, f, alone, e, s)
		}
	}
}

// hasNone asks that p has no text.
func hasNone(t *testing.T, p api.Program, why string) {
	t.Helper()
	if s, e := Text(p); s != "" || e != api.ErrForm || May(p) {
		t.Errorf("%s: Text = %.300q, %d, May: %v; want none", why, s, e, May(p))
	}
}

// hold asks that a program of text s has a text of those lines.
func hold(t *testing.T, s string, lines ...string) {
	t.Helper()
	has(t, read(t, s), text(lines...))
}

func text(lines ...string) string {
	var s string
	for _, l := range lines {
		s += l + "\n"
	}
	return s
}

// holdCond asks that a rule of that one condition has that line, alone, and with
// others at its sides.
func holdCond(t *testing.T, c, want string) {
	t.Helper()
	hold(t, "rule r when "+c+" then end", "rule r", "when", "  "+want, "then", "end")
	hold(t, "rule r when f:b(z:1) "+c+" "+c+" test 1 then halt end", "rule r", "when", "  f: b(z: 1)", "  "+want, "  "+want, "  test 1", "then", "  halt", "end")
}

// holdAct asks that a rule of that one action has that line, alone, and with
// others at its sides.
func holdAct(t *testing.T, a, want string) {
	t.Helper()
	hold(t, "rule r when then "+a+" end", "rule r", "when", "then", "  "+want, "end")
	hold(t, "rule r when b() then retract b "+a+" "+a+" halt end rule s when then "+a+" end",
		"rule r", "when", "  b()", "then", "  retract b", "  "+want, "  "+want, "  halt", "end", "rule s", "when", "then", "  "+want, "end")
}

// P13.1: the chapter's example, and those of the whole that are programs.
func TestExamples(t *testing.T) {
	hold(t, "rule r 0 when p:a(x:(1)) then halt end", "rule r", "when", "  p: a(x: 1)", "then", "  halt", "end")
	hold(t, "template a x:int template b z:int rule r when a(x: ?n) then logical b(z: ?n) end", "template a x:int", "template b z:int", "rule r", "when", "  a(x: ?n)", "then", "  logical b(z: ?n)", "end")
	hold(t, "rule r when not b() then assert b(z: 6 / ?n) end", "rule r", "when", "  not b()", "then", "  assert b(z: 6 / ?n)", "end")
	hold(t, "rule r when p: a(x: ?n) then modify p(x: ?n + 1) end", "rule r", "when", "  p: a(x: ?n)", "then", "  modify p(x: ?n + 1)", "end")
	hold(t, "rule r when a(x: ?n) a(x: > ?n) then halt end", "rule r", "when", "  a(x: ?n)", "  a(x: > ?n)", "then", "  halt", "end")
}

// P13.1: templates and rules, none of either.
func TestPrograms(t *testing.T) {
	for _, s := range []string{"", " ", "\n\n", "; a remark", "; rule r when then end\n"} {
		hold(t, s)
	}
	has(t, api.Program{}, "")
	has(t, api.Program{Templates: []api.Template{}, At: []api.Place{}, Rules: []api.Rule{}}, "")
	hold(t, "template a x:int", "template a x:int")
	hold(t, "rule r when then end", "rule r", "when", "then", "end")
	hold(t, "template a\nx\n:\nint;\nrule r\n0when then end", "template a x:int", "rule r", "when", "then", "end")
	hold(t, "template b x:int template a x:int rule s when then end rule r when then end", "template b x:int", "template a x:int", "rule s", "when", "then", "end", "rule r", "when", "then", "end")
	// Whether names are there twice, or are any template's, is not asked here.
	hold(t, "template a x:int x:sym template a x:int rule a when a: a(x: 1, x: 2) then retract z end rule a when then end",
		"template a x:int x:sym", "template a x:int", "rule a", "when", "  a: a(x: 1, x: 2)", "then", "  retract z", "end", "rule a", "when", "then", "end")
}

// P13.1: templates.
func TestTemplates(t *testing.T) {
	for _, kind := range []string{"int", "dec", "str", "bool", "sym"} {
		hold(t, "template a x : "+kind, "template a x:"+kind)
		hold(t, "template a\ny:int x:"+kind+"  "+kind+" : "+kind, "template a y:int x:"+kind+" "+kind+":"+kind)
	}
	hold(t, "template a b:int c:dec d:str e:bool f:sym g:int h:int i:int", "template a b:int c:dec d:str e:bool f:sym g:int h:int i:int")
	hold(t, "template abcdefghijkl abcdefghijk9:int template z z:sym", "template abcdefghijkl abcdefghijk9:int", "template z z:sym")
}

// P13.1: saliences, of which 0 is not told.
func TestSaliences(t *testing.T) {
	for _, x := range [][2]string{{"", ""}, {"0", ""}, {"-0", ""}, {"- 0", ""}, {"1", " 1"}, {"-1", " -1"}, {"- 1", " -1"}, {"-\n1", " -1"}, {"7", " 7"}, {"99", " 99"}, {"100", " 100"}, {"-99", " -99"}, {"-100", " -100"}, {"- ;\n 100", " -100"}} {
		hold(t, "rule r "+x[0]+" when then end", "rule r"+x[1], "when", "then", "end")
		hold(t, "template a x:int rule q 5 when then end rule r "+x[0]+" when then end", "template a x:int", "rule q 5", "when", "then", "end", "rule r"+x[1], "when", "then", "end")
	}
	least, most := -1<<63, 1<<63-1
	for n := -150; n <= 150; n++ {
		holdSalience(t, n)
	}
	for _, n := range []int{least, least + 1, -1 << 40, -1 << 32, -1<<32 + 1, -1 << 31, -1000, -256, 256, 1000, 1 << 31, 1 << 32, 1<<32 + 1, most - 1, most} {
		holdSalience(t, n)
	}
}

func holdSalience(t *testing.T, n int) {
	t.Helper()
	p := read(t, "rule r when then end")
	p.Rules[0].Salience = n
	if n < -100 || n > 100 {
		hasNone(t, p, fmt.Sprint("a salience of ", n))
		return
	}
	first := "rule r " + fmt.Sprint(n)
	if n == 0 {
		first = "rule r"
	}
	has(t, p, text(first, "when", "then", "end"))
}

// P13.1: each kind of condition.
func TestConds(t *testing.T) {
	holdCond(t, "a()", "a()")
	holdCond(t, "p : a ( )", "p: a()")
	holdCond(t, "a(x:1)", "a(x: 1)")
	holdCond(t, "p:a(x:1 , y : 2)", "p: a(x: 1, y: 2)")
	holdCond(t, "a:a(a:1)", "a: a(a: 1)")
	holdCond(t, "not a()", "not a()")
	holdCond(t, "not\na(x:(1),y:-)", "not a(x: 1, y: -)")
	holdCond(t, "exists a()", "exists a()")
	holdCond(t, "exists a(x:=1)", "exists a(x: 1)")
	holdCond(t, "not(a())", "not (a())")
	holdCond(t, "not ( a(x:1) )", "not (a(x: 1))")
	holdCond(t, "not(a()b())", "not (a() b())")
	holdCond(t, "not(a(x:1)a(x:2,y:3)b())", "not (a(x: 1) a(x: 2, y: 3) b())")
	holdCond(t, "not(a()a()a(y:4)a())", "not (a() a() a(y: 4) a())")
	holdCond(t, "test 1", "test 1")
	holdCond(t, "test(1=(1))", "test 1 = 1")
	holdCond(t, "test not(?n)", "test not ?n")
	holdCond(t, "test not (?p and true)", "test not (?p and true)")
	holdCond(t, "test -(-(1))", "test --1")
	holdCond(t, "test contains(\"a\",\"b\")", "test contains(\"a\", \"b\")")
	for _, n := range []int{1, 2, 7, 8} {
		holdCond(t, "a("+numbered(n, " ,", "x%:%")+")", "a("+numbered(n, ", ", "x%: %")+")")
		holdCond(t, "exists a("+numbered(n, ",", "x:%,1")+")", "exists a("+numbered(n, ", ", "x: %, 1")+")")
	}
}

// numbered tells n of such a part, in which % stands for its number, with a
// text between.
func numbered(n int, between, part string) string {
	var l []string
	for i := range n {
		l = append(l, strings.ReplaceAll(part, "%", fmt.Sprint(i)))
	}
	return strings.Join(l, between)
}

// P13.1: tests of slots, as layer 11 tells them; what stands behind them in a
// pattern is none of theirs.
func TestSlotTests(t *testing.T) {
	for _, x := range [][2]string{
		{"-", "-"}, {"5", "5"}, {"=5", "5"}, {"-5", "-5"}, {"- - 5", "--5"}, {"<5", "< 5"}, {"<=?n", "<= ?n"}, {">#s", "> #s"}, {">=1.5", ">= 1.5"},
		{"[1..2]", "[1 .. 2]"}, {"(1..2)", "(1 .. 2)"}, {"[1..2)", "[1 .. 2)"}, {"((1)..2]", "(1 .. 2]"}, {"(1)", "1"}, {"(1+2)*3", "(1 + 2) * 3"}, {"(?n)", "?n"},
		{"not(1)", "not(1)"}, {"not(-)", "not(-)"}, {"not ( 1,2 )", "not(1, 2)"}, {"not(not(not(not(1))))", "not(not(not(not(1))))"}, {"not true", "not true"}, {"= not(true)", "not true"}, {"= not(?n and ?m)", "= not (?n and ?m)"},
		{"1,2", "1, 2"}, {"-,-", "-, -"}, {"1,true", "1, true"}, {"true , null", "true, null"}, {"1,?x,\"y:\"", "1, ?x, \"y:\""}, {"[1..2],not(3,4),-", "[1 .. 2], not(3, 4), -"}, {"min(1,2),3", "min(1, 2), 3"},
		{"\"a;b\"", "\"a;b\""}, {"\",\\\"y:\"", "\",\\\"y:\""}, {"if(?,1,2)=1", "if(?, 1, 2) = 1"}, {"? > 3", "? > 3"}, {"> ? + 1", "> ? + 1"}, {"null", "null"},
	} {
		holdCond(t, "a(x:"+x[0]+")", "a(x: "+x[1]+")")
		holdCond(t, "a(x:"+x[0]+",y:1)", "a(x: "+x[1]+", y: 1)")
		holdCond(t, "not a(y:- , x:"+x[0]+",y:"+x[0]+")", "not a(y: -, x: "+x[1]+", y: "+x[1]+")")
		holdCond(t, "not(a(x:"+x[0]+")b(y:"+x[0]+"))", "not (a(x: "+x[1]+") b(y: "+x[1]+"))")
	}
}

// P13.1: each kind of action.
func TestActions(t *testing.T) {
	for _, word := range []string{"assert", "logical", "modify"} {
		holdAct(t, word+" a()", word+" a()")
		holdAct(t, word+"\na ( x:1 )", word+" a(x: 1)")
		holdAct(t, word+" a(x:(1)+2,y:null)", word+" a(x: 1 + 2, y: null)")
		holdAct(t, word+" a(a:-(?n),b:not true,c:\"u\",d:#s,e:min(1,?n),f:1.5,g:(1-(2-3)),h:?n)", word+" a(a: -?n, b: not true, c: \"u\", d: #s, e: min(1, ?n), f: 1.5, g: 1 - (2 - 3), h: ?n)")
		for _, n := range []int{1, 2, 7, 8} {
			holdAct(t, word+" a("+numbered(n, " ,", "x%:%")+")", word+" a("+numbered(n, ", ", "x%: %")+")")
		}
	}
	holdAct(t, "retract p", "retract p")
	holdAct(t, "retract\nabcdefghijkl", "retract abcdefghijkl")
	holdAct(t, "halt", "halt")
}

// P13.1: what is read of many texts, blanks, line ends, remarks and all.
func TestTextsOfOneProgram(t *testing.T) {
	want := text("template a x:int y:sym", "template b z:dec w:bool", "rule r -5", "when",
		"  p: a(x: > 1, y: not(2, [3 .. 4)))", "  a(x: ?n, y: (?n + 1 .. 5))", "  not b(z: 1)", "  exists b(w: true, z: -)", "  not (a(x: 1, y: #s) b(z: ?n))", "  test ?n + 1 < length(\"u\")",
		"then", "  assert a(x: 1, y: #s)", "  logical b(z: 1.5)", "  modify p(x: min(1, ?n), y: null)", "  retract p", "  halt", "end",
		"rule q 7", "when", "  a()", "then", "  halt", "end")
	has(t, full(t), want)
	for _, s := range []string{
		want, strings.ReplaceAll(want, "\n", " "), strings.ReplaceAll(want, " ", "\n"), strings.ReplaceAll(want, "\n", "; rule end ( \"\n"), " \n;\n" + want + "; end",
		strings.NewReplacer(": ", ":", ", ", ",", " .. ", "..", " <", "<", "+ ", "+", "  ", "").Replace(want),
		strings.NewReplacer("x: 1", "x: (1)", "?n", "((?n))", "\"u\"", "(\"u\")", "1.5", "(((1.5)))").Replace(strings.ReplaceAll(want, "a(x: ?n,", "a(x: = ?n,")),
		strings.NewReplacer("z: 1)", "z: = 1)", "true", "= true", "min(", "min ( ", "-5", "- 5", "?n))", "((?n)) ) )", "(", " ( ", ")", " ) ").Replace(want),
	} {
		has(t, read(t, s), want)
	}
}

// full is a program with each part that one may have, lists of two or more.
func full(t *testing.T) api.Program {
	return read(t, `template a x:int y:sym template b z:dec w:bool
rule r -5 when p: a(x: > 1, y: not(2, [3 .. 4))) a(x: ?n, y: (?n + 1 .. 5)) not b(z: 1) exists b(w: true, z: -)
not (a(x: 1, y: #s) b(z: ?n)) test ?n + 1 < length("u")
then assert a(x: 1, y: #s) logical b(z: 1.5) modify p(x: min(1, ?n), y: null) retract p halt end
rule q 7 when a() then halt end`)
}

// P13.2: a rule by itself has what a program of it alone has.
func TestRules(t *testing.T) {
	p := full(t)
	for i, want := range []string{
		text("rule r -5", "when", "  p: a(x: > 1, y: not(2, [3 .. 4)))", "  a(x: ?n, y: (?n + 1 .. 5))", "  not b(z: 1)", "  exists b(w: true, z: -)", "  not (a(x: 1, y: #s) b(z: ?n))", "  test ?n + 1 < length(\"u\")",
			"then", "  assert a(x: 1, y: #s)", "  logical b(z: 1.5)", "  modify p(x: min(1, ?n), y: null)", "  retract p", "  halt", "end"),
		text("rule q 7", "when", "  a()", "then", "  halt", "end"),
	} {
		if s, e := Rule(p.Rules[i]); s != want || e != api.OK {
			t.Errorf("Rule = %q, %d; want %q", s, e, want)
		}
	}
	if s, e := Rule(api.Rule{Name: "r"}); s != "rule r\nwhen\nthen\nend\n" || e != api.OK {
		t.Errorf("Rule of no parts = %q, %d", s, e)
	}
	for _, r := range []api.Rule{
		{}, {Name: "rule"}, {Name: "r s"}, {Name: "r 1"}, {Name: "R"}, {Name: "abcdefghijklm"}, {Name: "r", Salience: 101}, {Name: "r", Salience: -101}, {Name: "r", Conds: make([]api.Cond, 1)}, {Name: "r", Acts: make([]api.Action, 1)},
		{Name: "r", Acts: make([]api.Action, 9)}, {Name: "r", Conds: []api.Cond{{Kind: api.CondTest}}}, {Name: "r", Conds: []api.Cond{{Kind: api.CondIs}}}, {Name: "r", Acts: []api.Action{{Kind: api.ActHalt, Name: "p"}}},
	} {
		if s, e := Rule(r); s != "" || e != api.ErrForm {
			t.Errorf("Rule(%v) = %q, %d", r, s, e)
		}
		// Beside others it is no better, and they are no better beside it.
		hasNone(t, api.Program{Rules: []api.Rule{{Name: "a"}, r}}, fmt.Sprint(r))
		hasNone(t, api.Program{Rules: []api.Rule{r, {Name: "a"}}}, fmt.Sprint(r))
	}
	// Of 33 rules each has a text by itself.
	many := api.Program{Rules: make([]api.Rule, 33)}
	for i := range many.Rules {
		many.Rules[i].Name = fmt.Sprint("r", i)
		if s, e := Rule(many.Rules[i]); s != fmt.Sprintf("rule r%d\nwhen\nthen\nend\n", i) || e != api.OK {
			t.Errorf("Rule %d = %q, %d", i, s, e)
		}
	}
	hasNone(t, many, "33 rules")
}
