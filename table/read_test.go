package table

import (
	"fmt"
	"reflect"
	"strings"
	"testing"

	"witan/api"
	"witan/eprint"
	"witan/unary"
	"witan/vtext"
)

// show tells a place as a test writes it.
func show(p api.Place) string { return fmt.Sprintf("%d:%d", p.Line, p.Col) }

// The names that tests here give to policies and kinds, by api's numbers.
var (
	policyNames = []string{"?", "unique", "first", "priority", "any", "order", "collect", "sum", "min", "max", "count", "?"}
	kindNames   = []string{"?", "int", "dec", "str", "bool", "sym", "?"}
)

func nameIn(l []string, n uint8) string { return l[min(int(n), len(l)-1)] }

// dump tells all of a table, its rows a line each, with all places.
func dump(a api.Table) string {
	if reflect.DeepEqual(a, api.Table{}) {
		return ""
	}
	s := a.Name + "@" + show(a.At) + " " + nameIn(policyNames, a.Policy)
	for _, v := range a.Order {
		s += " " + vtext.Text(v)
	}
	for _, slots := range [][]api.Slot{a.In, a.Out} {
		s += " |"
		for _, x := range slots {
			s += " " + x.Name + ":" + nameIn(kindNames, x.Kind)
		}
	}
	l := []string{s}
	for _, r := range a.Rows {
		s := "row@" + show(r.At)
		for _, x := range r.Tests {
			text, _ := unary.Text(x)
			s += " " + text + "@" + show(x[len(x)-1].At)
		}
		s += " |"
		for _, x := range r.Outs {
			text, _ := eprint.Text(x)
			s += " " + text + "@" + show(x[len(x)-1].At)
		}
		l = append(l, s)
	}
	return strings.Join(l, "\n")
}

// hold asks that s is read as a table of that dump.
func hold(t *testing.T, s string, want ...string) {
	t.Helper()
	a, at, e := Parse(s)
	if got := dump(a); got != strings.Join(want, "\n") || at != (api.Place{}) || e != api.OK {
		t.Errorf("Parse(%.500q): %v, %d:\n%s\nwant:\n%s", s, at, e, got, strings.Join(want, "\n"))
	}
}

// marked tells a text without the ^ that stands in it once, and its place.
func marked(t *testing.T, s string) (string, api.Place) {
	t.Helper()
	ahead, behind, ok := strings.Cut(s, "^")
	if !ok || strings.Contains(behind, "^") {
		t.Fatalf("no place is marked in %q", s)
	}
	line := strings.Count(ahead, "\n")
	return ahead + behind, api.Place{Line: line + 1, Col: len(ahead) - strings.LastIndex(ahead, "\n")}
}

// refuse asks that s is refused with that error, at the place that is marked in it.
func refuse(t *testing.T, s string, want api.Errno) {
	t.Helper()
	s, place := marked(t, s)
	a, at, e := Parse(s)
	if e != want || at != place || !reflect.DeepEqual(a, api.Table{}) {
		t.Errorf("Parse(%.500q) = %v, %v, %d; want %v, %d", s, dump(a), at, e, place, want)
	}
}

func mustParse(t *testing.T, s string) api.Table {
	t.Helper()
	a, at, e := Parse(s)
	if e != api.OK {
		t.Fatalf("Parse(%.300q): %v, %d", s, at, e)
	}
	return a
}

// P15.1: the examples of the chapter and of the document.
func TestExamples(t *testing.T) {
	hold(t, "table t first in x:int out y:int row > 1 : ?x row - : 0 end",
		"t@1:1 first | x:int | y:int", "row@1:34 > 1@1:38 | ?x@1:44", "row@1:47 -@1:51 | 0@1:55")
	hold(t, "table t sum in x:int out y:str end", "t@1:1 sum | x:int | y:str")
	refuse(t, "table t any in x:int out y:int row 1, ^2 : 0 end", api.ErrMany)
	hold(t, "table t sum in x:int out y:int row > 0 : 1 row > 1 : 2 end",
		"t@1:1 sum | x:int | y:int", "row@1:32 > 0@1:36 | 1@1:42", "row@1:44 > 1@1:48 | 2@1:54")
	hold(t, "table t unique in x:int out y:int row > 0 : 1 row > 1 : 2 end",
		"t@1:1 unique | x:int | y:int", "row@1:35 > 0@1:39 | 1@1:45", "row@1:47 > 1@1:51 | 2@1:57")
}

// P15.1: each policy, and words that are none.
func TestPolicies(t *testing.T) {
	for p, name := range policyNames[1:11] {
		values := ""
		if p+1 == int(api.PolPriority) {
			values = " 1"
		}
		a := mustParse(t, "table t "+name+values+" in x:int out y:int end")
		if int(a.Policy) != p+1 || len(a.Order) != len(values)/2 {
			t.Errorf("%s: %d, %v", name, a.Policy, a.Order)
		}
		hold(t, "table t\n"+name+values+"\nin x:int out y:int row 5 : 6 end", "t@1:1 "+name+values+" | x:int | y:int", "row@3:20 5@3:24 | 6@3:28")
		for _, s := range []string{"^" + name + "s", "^\"" + name + "\"", "^#" + name, "^?" + name, "^x" + name} {
			refuse(t, "table t "+s+" in x:int out y:int end", api.ErrForm)
		}
		refuse(t, "table t "+name+values+"^", api.ErrForm)
		if p+1 != int(api.PolPriority) {
			refuse(t, "table t "+name+" ^1 in x:int out y:int end", api.ErrForm)
			refuse(t, "table t "+name+" ^"+name+" in x:int out y:int end", api.ErrForm)
			refuse(t, "table t "+name+" ^-1 in x:int out y:int end", api.ErrForm)
			refuse(t, "table t "+name+" ^true in x:int out y:int end", api.ErrForm)
		}
	}
	for _, s := range []string{"^in x:int out y:int end", "^none in x:int out y:int end", "^policy", "^1 in x:int", "^- in x:int", "^: in x:int", "^u in", "^firs in", "^\"\" in", "^\"\" x:int out y:int end", "^? in", "^table", "^out y:int", "^row 1 : 1", "^end", "^avg in", "^uniques in", "^(first) in", "^fir st in", "^true in", "^abs in", "^5.5 in"} {
		refuse(t, "table t "+s, api.ErrForm)
	}
}

// P15.1: tables without rows, and with some; names that are words elsewhere.
func TestTables(t *testing.T) {
	hold(t, "table t any in x:int out y:int end", "t@1:1 any | x:int | y:int")
	hold(t, "table t any in v:int w:dec x:str y:bool out z:sym v:int end", "t@1:1 any | v:int w:dec x:str y:bool | z:sym v:int")
	hold(t, "table t any in x:int x:int out x:dec x:dec end", "t@1:1 any | x:int x:int | x:dec x:dec")
	hold(t, "table abcdefghijkl any in x1234567890z:int out abcdefghijkl:int end", "abcdefghijkl@1:1 any | x1234567890z:int | abcdefghijkl:int")
	// Words of policies and of kinds are kept for none.
	hold(t, "table first first in any:int out sum:sym end", "first@1:1 first | any:int | sum:sym") // min, max are kept
	hold(t, "table unique priority 1 in priority:int order:dec out collect:str count:bool end", "unique@1:1 priority 1 | priority:int order:dec | collect:str count:bool")
	hold(t, "table int sum in int:int dec:dec out str:str bool:bool sym:sym end", "int@1:1 sum | int:int dec:dec | str:str bool:bool sym:sym")
	hold(t, "table tables order in ins:int outs:int out rows:int ends:int end", "tables@1:1 order | ins:int outs:int | rows:int ends:int")
	// Places go over lines and remarks.
	hold(t, "\n ; a remark\n  table t\nany ; %\nin x:int\nout y:int\n\n  row 1\n  :\n2\nrow ; row\n  > 3 ; :\n   : ?x+1\nend ; end\n\n",
		"t@3:3 any | x:int | y:int", "row@8:3 1@8:7 | 2@10:1", "row@11:1 > 3@12:3 | ?x + 1@13:8")
	hold(t, "table t any in x:int out y:int row 1:1row 2:2row 3:3end", "t@1:1 any | x:int | y:int", "row@1:32 1@1:36 | 1@1:38", "row@1:39 2@1:43 | 2@1:45", "row@1:46 3@1:50 | 3@1:52")
	hold(t, "table t any in x : int out y\n:\nint end", "t@1:1 any | x:int | y:int")
	hold(t, ";\ntable t any in x:int out y:int end;", "t@2:1 any | x:int | y:int")

	for _, x := range []struct {
		ahead  string
		behind []string
	}{
		{"", []string{"^x", "^1", "^t", "^tables t any in x:int out y:int end", "^\"table\" t any in x:int out y:int end", "^#table t any in x:int out y:int end", "^?table t any in x:int out y:int end", "^rule r when then end", "^template a x:int", "^row 1 : 1", "^end", "^in", "^: table", "^-"}},
		{"table", []string{"^", " ^table", " ^1 any", " ^\"t\" any in x:int out y:int end", " ^#t any in x:int out y:int end", " ^?t any in x:int out y:int end", " ^? any", " ^min min in x:int out y:int end", " ^max any", " ^in any", " ^row any", " ^end", " ^rule any", " ^null any", " ^: any"}},
		{"table t", []string{"^", " ^table", " ^t", " ^\"any\" in x:int", " ^in x:int out y:int end", " ^1"}},
		{"table t any", []string{"^", " ^x:int out y:int end", " ^out y:int end", " ^end", " ^row 1 : 1 end", " ^\"in\" x:int out y:int end", " ^#in x:int out y:int end", " ^?in x:int out y:int end", " ^ins x:int out y:int end", " ^: in", " ^any in"}},
		{"table t any in", []string{"^", " ^out y:int end", " ^in x:int", " ^row 1 : 1", " ^end", " ^1:int", " ^?x:int", " ^#x:int", " ^\"x\":int", " ^min:int", " ^not:int", " ^:int", " ^(x:int)"}},
		{"table t any in x", []string{"^", " ^int", " ^out", " ^y:int", " ^= int", " ^\":\" int", " ^in"}},
		{"table t any in x:", []string{"^", "^out y:int end", "^number", "^ints", "^\"int\"", "^#int", "^?int", "^1", "^null", " ^: int", "^-", "^x"}},
		{"table t any in x:int", []string{"^", " ^row 1 : 1 end", " ^end", " ^in y:int", "^, y:int", " ^1", " ^\"out\" y:int end", " ^?out y:int", " outs ^y:int", " outs^", " int^"}},
		{"table t any in x:int out", []string{"^", " ^row 1 : 1 end", " ^end", " ^out y:int", " ^in y:int", " ^1", " ^?y:int", " y^", " y ^int", " y ^row", " y:^", " y:^end", " y:^a", " ^not:int"}},
		{"table t any in x:int out y:int", []string{"^", " ^out z:int end", " ^in z:int", " ^1 : 1 end", " ^\"end\"", " ^#end", " ^: 1", "^, z:int end", " ^\"row\" 1 : 1 end", " rows ^1 : 1 end", " ends^", " int^"}},
		{"table t any in x:int out y:int row", []string{"^", " ^: 1 end", " ^row 1 : 1 end", " ^end", " ^, 1 : 1 end", " ^in", " ^x : 1", " ^..", " ^]"}},
		{"table t any in x:int out y:int row 1", []string{"^", " ^1 : 1 end", " ^end", " ^row 2 : 2 end", " ^out : 1 end", " ^\":\" 1 end", " ^) : 1 end", " ^x", " ^?x", " + ^: 1", " -^"}},
		{"table t any in x:int out y:int row -", []string{"^", " ^- : 1 end", " ^end", " ^> 1 : 1 end", " ^not : 1", " ^x"}},
		{"table t any in x:int out y:int row 1 :", []string{"^", " ^end", " ^row 1 : 1 end", " ^: 1 end", " ^, 1 end", " -^", " - ^end", " ^> 1 end", " ^[1 .. 2] end", " ^= 1 end", " ^x", " not ^end"}},
		{"table t any in x:int out y:int row 1 : 1", []string{"^", " ^1 end", " ^: 2 end", " ^out", " ^2 : 2 end", " ^\"end\"", " ^#end", " ^rows", " row^", " ^in", " ^x", " ^not"}},
		{"table t any in x:int out y:int row 1 : 1 row 2 : 2", []string{"^", " ^1 end", " ^: 2 end", " ^out", " ^ends", " row^", " row ^end"}},
		{"table t any in x:int out y:int end", []string{" ^end", " ^row 1 : 1 end", " ^table t any in x:int out y:int end", " ^x", " ^1", " ;\n ^:", " ^\"end\""}},
		{"table t any in x:int out y:int row 1 : 1 end", []string{" ^end", " ^row 2 : 2 end", " ^table", " ^1", " ^?"}},
	} {
		for _, s := range x.behind {
			refuse(t, x.ahead+s, api.ErrForm)
			refuse(t, "; a remark\n\n  "+x.ahead+s, api.ErrForm)
		}
	}
	for _, s := range []string{"^", "^ ", "^\n", "^; a remark\n\n", "^   \n;"} {
		refuse(t, s, api.ErrForm)
	}
}

// P15.1: values of priority.
func TestValues(t *testing.T) {
	for _, x := range []struct {
		written string
		want    []api.Value
	}{
		{"1", []api.Value{{Kind: api.Int, N: 1}}},
		{"0", []api.Value{{Kind: api.Int}}},
		{"-1", []api.Value{{Kind: api.Int, N: -1}}},
		{"- 1", []api.Value{{Kind: api.Int, N: -1}}},
		{"-\n;\n1", []api.Value{{Kind: api.Int, N: -1}}},
		{"-0", []api.Value{{Kind: api.Int}}},
		{"9223372036854775807", []api.Value{{Kind: api.Int, N: 1<<63 - 1}}},
		{"-9223372036854775807", []api.Value{{Kind: api.Int, N: -1<<63 + 1}}},
		{"1.5", []api.Value{{Kind: api.Dec, N: 15000}}},
		{"-1.5", []api.Value{{Kind: api.Dec, N: -15000}}},
		{"0.0", []api.Value{{Kind: api.Dec}}},
		{"-0.0", []api.Value{{Kind: api.Dec}}},
		{"-0.0001", []api.Value{{Kind: api.Dec, N: -1}}},
		{"-922337203685477.5807", []api.Value{{Kind: api.Dec, N: -1<<63 + 1}}},
		{"922337203685477.5807", []api.Value{{Kind: api.Dec, N: 1<<63 - 1}}},
		{`"a"`, []api.Value{{Kind: api.Str, S: "a"}}},
		{`""`, []api.Value{{Kind: api.Str}}},
		{`"a\"b\\"`, []api.Value{{Kind: api.Str, S: `a"b\`}}},
		{`"in"`, []api.Value{{Kind: api.Str, S: "in"}}},
		{"#a", []api.Value{{Kind: api.Sym, S: "a"}}},
		{"#in", []api.Value{{Kind: api.Sym, S: "in"}}},
		{"true", []api.Value{{Kind: api.Bool, N: 1}}},
		{"false", []api.Value{{Kind: api.Bool}}},
		{"-1 2", []api.Value{{Kind: api.Int, N: -1}, {Kind: api.Int, N: 2}}},
		{"1 -2", []api.Value{{Kind: api.Int, N: 1}, {Kind: api.Int, N: -2}}},
		{"-1-2-3.5", []api.Value{{Kind: api.Int, N: -1}, {Kind: api.Int, N: -2}, {Kind: api.Dec, N: -35000}}},
		{"1 1 1", []api.Value{{Kind: api.Int, N: 1}, {Kind: api.Int, N: 1}, {Kind: api.Int, N: 1}}},
		{"1 1.0", []api.Value{{Kind: api.Int, N: 1}, {Kind: api.Dec, N: 10000}}},
		{`5 1.5 "u" #s true false -7`, []api.Value{{Kind: api.Int, N: 5}, {Kind: api.Dec, N: 15000}, {Kind: api.Str, S: "u"}, {Kind: api.Sym, S: "s"}, {Kind: api.Bool, N: 1}, {Kind: api.Bool}, {Kind: api.Int, N: -7}}},
	} {
		a := mustParse(t, "table t priority "+x.written+" in x:int out y:int end")
		if !reflect.DeepEqual(a.Order, x.want) {
			t.Errorf("%s: %v; want %v", x.written, a.Order, x.want)
		}
		if b := mustParse(t, "table t priority\n"+x.written+"\nin x:int out y:int row - : 1 end"); !reflect.DeepEqual(b.Order, x.want) {
			t.Errorf("%s: %v; want %v", x.written, b.Order, x.want)
		}
	}
	for _, s := range []string{
		"^in", "^null", "- ^in", "- ^null", "-^\"u\"", "-^#s", "-^true", "-^false", "-^-1", "- ^- 1", "-^?x", "-^(1)", "^+1", "^?x", "^?", "^(1)", "^x", "^:", "^,", "^[1]", "^not", "^min", "^out", "^row", "^end", "^priority", "^first",
		"1 ^null", "1^, 2", "1 ^x", "1 ^+ 2", "1 ^* 2", "1 -^-2", "1 - ^in", "1 ^?", "1 ^row", "1 ^end", "1 ^out", "1 \"u\" ^null", "#s true -^true", "1 ^first", "1 2 3 4 ^:", "true ^or false", "1 ^(2)", "1 ^= 1", "1 ^.. 2", "\"in\" ^x:int", "#in ^x:int",
	} {
		refuse(t, "table t priority "+s+" in x:int out y:int end", api.ErrForm)
		refuse(t, "table t priority "+s, api.ErrForm)
	}
	for _, s := range []string{"^", " 1^", " -^", " 1 -^", " \"u\"^", " true^", " #s^"} {
		refuse(t, "table t priority"+s, api.ErrForm)
		refuse(t, "table t priority"+s+" \n; remark\n", api.ErrForm)
	}
	// What is no int64 as it stands is none of layer 6's words.
	for _, s := range []string{"^9223372036854775808", "-^9223372036854775808", "-^9223372036854775809", "- ^922337203685477.5808", "1 2 -^18446744073709551616", "1 -^92233720368547758080", "\"u\" - ^922337203685477.5809"} {
		refuse(t, "table t priority "+s+" in x:int out y:int end", api.ErrOver)
		refuse(t, "table t any "+s, api.ErrOver)
	}
}

// P15.1: tests and expressions of rows.
func TestRows(t *testing.T) {
	for _, x := range []struct{ written, want string }{
		{"1 : 1", "1@2:5 | 1@2:9"},
		{"- : 1", "-@2:5 | 1@2:9"},
		{"-1 : -1", "-1@2:5 | -1@2:10"},
		{"> 1 : ?x", "> 1@2:5 | ?x@2:11"},
		{"= \"u\" : \"v\"", "\"u\"@2:5 | \"v\"@2:13"},
		{"<= ?n + 1 : ?x * 2 + 1", "<= ?n + 1@2:5 | ?x * 2 + 1@2:24"},
		{"[1 .. 2) : min(1, 2)", "[1 .. 2)@2:5 | min(1, 2)@2:16"},
		{"(1 .. 2] : (1)", "(1 .. 2]@2:5 | 1@2:17"},
		{"(1) : if(true, 1, 2)", "1@2:5 | if(true, 1, 2)@2:11"},
		{"not(1) : null", "not(1)@2:5 | null@2:14"},
		{"not(1, 2, > 3) : not true", "not(1, 2, > 3)@2:5 | not true@2:22"},
		{"not(-, 1) : - - 1", "not(-, 1)@2:5 | --1@2:17"},
		{"not(not(not(not(-)))) : ?", "not(not(not(not(-))))@2:5 | ?@2:29"},
		{"not true : true or false", "not true@2:5 | true or false@2:21"},
		{"null : #s", "null@2:5 | #s@2:12"},
		{"?x : ?x", "?x@2:5 | ?x@2:10"},
		{"? : ?", "?@2:5 | ?@2:9"},
		{"length(?) > 2 : upper(\"row\")", "length(?) > 2@2:5 | upper(\"row\")@2:21"},
		{"#end : \"end\"", "#end@2:5 | \"end\"@2:12"},
	} {
		hold(t, "table t any in x:int out y:int\nrow "+x.written+" end", "t@1:1 any | x:int | y:int", "row@2:1 "+x.want)
		hold(t, "table t any in x:int out y:int row 0 : 0\nrow "+x.written+" row 5 : 5 end",
			"t@1:1 any | x:int | y:int", "row@1:32 0@1:36 | 0@1:40", "row@2:1 "+x.want, fmt.Sprintf("row@2:%d 5@2:%d | 5@2:%d", len(x.written)+6, len(x.written)+10, len(x.written)+14))
	}
	hold(t, "table t any in a:int b:int c:int d:int out y:int z:int\nrow -, > 1, [2 .. 3], not(4, 5) : 6, ?a end",
		"t@1:1 any | a:int b:int c:int d:int | y:int z:int", "row@2:1 -@2:5 > 1@2:8 [2 .. 3]@2:13 not(4, 5)@2:23 | 6@2:35 ?a@2:38")
	hold(t, "table t any in a:int b:int out w:int x:int y:int z:int\nrow -,- : min(1,2),-1,(3),?b\nrow 1, 2 : 3, 4, 5, 6 end",
		"t@1:1 any | a:int b:int | w:int x:int y:int z:int", "row@2:1 -@2:5 -@2:7 | min(1, 2)@2:11 -1@2:20 3@2:24 ?b@2:27", "row@3:1 1@3:5 2@3:8 | 3@3:12 4@3:15 5@3:18 6@3:21")
	// A one ends at its comma, whatever stands behind it.
	hold(t, "table t any in a:int b:int out y:int\nrow 1,(2) : 1 end",
		"t@1:1 any | a:int b:int | y:int", "row@2:1 1@2:5 2@2:7 | 1@2:13")
	refuse(t, "table t any in a:int b:int out y:int row 1, ^x : 1 end", api.ErrForm)
	refuse(t, "table t any in a:int b:int out y:int row 1, ^x: 1, y: 2 end", api.ErrForm)
}
