package table

import (
	"fmt"
	"math/rand"
	"slices"
	"strings"
	"testing"

	"witan/api"
	"witan/etype"
	"witan/unary"
)

// holdCheck asks that Check and May answer so, again and again, and leave a as
// it was.
func holdCheck(t *testing.T, a api.Table, place api.Place, want api.Errno, what string) {
	t.Helper()
	before := copyOf(a)
	for range 2 {
		if at, e := Check(a); at != place || e != want {
			t.Errorf("Check(%.1000s) = %v, %d; want %v, %d", what, at, e, place, want)
		}
		if May(a) != (want == api.OK) {
			t.Errorf("May(%.1000s) = %v", what, want != api.OK)
		}
	}
	if fmt.Sprint(a) != fmt.Sprint(before) {
		t.Errorf("%.1000s: what is handed in is changed", what)
	}
}

// fine asks that what is read of s is well-formed.
func fine(t *testing.T, s string) {
	t.Helper()
	holdCheck(t, mustParse(t, s), api.Place{}, api.OK, s)
}

// met asks that of what is read of s that error is met first, at the place that
// is marked in it.
func met(t *testing.T, s string, want api.Errno) {
	t.Helper()
	s, place := marked(t, s)
	holdCheck(t, mustParse(t, s), place, want, s)
}

// P15.3: the examples of the chapter and of the document.
func TestCheckedExamples(t *testing.T) {
	fine(t, "table t first in x:int out y:int row > 1 : ?x row - : 0 end")
	met(t, "^table t sum in x:int out y:str end", api.ErrKind)
	fine(t, "table t sum in x:int out y:int row > 0 : 1 row > 1 : 2 end")
	fine(t, "table t unique in x:int out y:int row > 0 : 1 row > 1 : 2 end")
	fine(t, full)
	fine(t, "; a remark\n"+strings.ReplaceAll(full, "\n", "\n; another\n\n  "))
}

// P15.3: names of two inputs, of two outputs; an input and an output may be of
// one name.
func TestNamesTwice(t *testing.T) {
	names := []string{"a", "b", "c", "d"}
	for _, p := range []string{"any", "count", "priority 1", "first", "collect"} {
		for n := 1; n <= 4; n++ {
			slots := strings.Join(names[:n], ":int ") + ":int"
			fine(t, "table t "+p+" in "+slots+" out "+slots+" end")
			fine(t, "table a "+p+" in "+slots+" out "+slots+" row "+strings.Join(ones(n), ", ")+" : "+strings.Join(ones(n), ", ")+" end")
			for i := range n {
				for j := range i {
					for _, kinds := range []string{":int ", ":dec ", ":sym "} {
						l := slices.Clone(names[:n])
						l[i] = l[j]
						twice := strings.Replace(strings.Join(l, ":int ")+":int ", l[i]+":int ", l[i]+kinds, j%2+1)
						if p == "priority 1" && kinds != ":int " && j == 0 {
							continue // there the first output's kind is asked, too
						}
						met(t, "^table t "+p+" in "+twice+" out y:int end", api.ErrTwice)
						met(t, "\n ; remark\n  ^table t "+p+" in a:int out "+twice+" end", api.ErrTwice)
						met(t, "^table t "+p+" in "+twice+" out "+twice+" end", api.ErrTwice)
					}
				}
			}
		}
	}
	// A row's tests and expressions are asked behind that.
	met(t, "^table t any in x:int x:str out y:int row \"u\", 1 : ?z end", api.ErrTwice)
	met(t, "^table t any in x:int out y:int y:str row \"u\" : ?z, 1 end", api.ErrTwice)
}

// P15.3: sum has one output, a number; min and max have one; the others any.
func TestOutputs(t *testing.T) {
	kinds := kindNames[1:6]
	for p, name := range policyNames[1:11] {
		p++
		values := func(k int) string {
			if p == int(api.PolPriority) {
				return []string{" 1", " 1.5", " \"u\"", " true", " #s"}[k]
			}
			return ""
		}
		for k, kind := range kinds {
			one := "table t " + name + values(k) + " in x:int out y:" + kind + " end"
			if p == int(api.PolSum) && k > 1 {
				met(t, "^"+one, api.ErrKind)
				met(t, "\n ^"+strings.Replace(one, "end", "row - : null end", 1), api.ErrKind)
			} else {
				fine(t, one)
				fine(t, strings.Replace(one, "end", "row - : null end", 1))
			}
			for k2, second := range kinds {
				for _, more := range []string{"", " w:int", " w:str v:dec"} {
					s := "table t " + name + values(k) + " in x:int out y:" + kind + " z:" + second + more + " end"
					if p == int(api.PolSum) || p == int(api.PolMin) || p == int(api.PolMax) {
						met(t, "^"+s, api.ErrMany)
						met(t, ";\n\n^"+s, api.ErrMany)
						met(t, "^"+strings.Replace(s, " w:int", " y:int", 1), map[bool]api.Errno{true: api.ErrTwice, false: api.ErrMany}[more == " w:int"])
					} else {
						fine(t, s)
					}
					if p == int(api.PolPriority) && k2 != k { // the first one's kind is asked alone
						met(t, "^table t priority"+values(k2)+" in x:int out y:"+kind+" z:"+second+more+" end", api.ErrKind)
					}
				}
			}
		}
	}
	met(t, "^table t sum in x:int out y:str z:str row 1 : 1, ?z end", api.ErrMany)
	met(t, "^table t sum in x:int out y:str row \"u\" : ?z end", api.ErrKind)
	met(t, "^table t min in x:int out y:str z:str row \"u\" : 1, ?z end", api.ErrMany)
	met(t, "^table t sum in x:int x:int out y:str z:str end", api.ErrTwice)
	met(t, "^table t sum in x:int out y:str y:str end", api.ErrTwice)
	met(t, "^table t max in x:int out y:int y:str end", api.ErrTwice)
}

// P15.3: values of priority.
func TestPriority(t *testing.T) {
	of := []string{"1 2", "1.0 2.0 0.5", `"a" "b" ""`, "true false", "#a #b #c"}
	for k, kind := range kindNames[1:6] {
		for l, values := range of {
			s := "^table t priority " + values + " in x:str out y:" + kind + " z:str end"
			if k == l {
				fine(t, s[1:])
				for _, v := range strings.Split(values, " ") {
					met(t, strings.Replace(s, " in", " "+v+" in", 1), api.ErrTwice)
					met(t, strings.Replace(s, "priority ", "priority "+v+" ", 1), api.ErrTwice)
					fine(t, "table t priority "+v+" in x:int out y:"+kind+" end")
				}
			} else {
				met(t, s, api.ErrKind)
				met(t, strings.Replace(s, "priority ", "priority "+of[k]+" ", 1), api.ErrKind)
				met(t, strings.Replace(s, " in", " "+of[k]+" in", 1), api.ErrKind)
				// All kinds are asked ahead of any two that are the same.
				met(t, strings.Replace(s, " in", " "+of[k]+" "+of[k]+" in", 1), api.ErrKind)
				met(t, strings.Replace(s, "priority ", "priority "+of[k]+" "+of[k]+" ", 1), api.ErrKind)
			}
		}
	}
	met(t, "^table t priority 1 1.0 in x:int out y:int end", api.ErrKind)
	met(t, "^table t priority 1.0 1 in x:int out y:dec end", api.ErrKind)
	met(t, "^table t priority 1 -1 1 in x:int out y:int end", api.ErrTwice)
	met(t, "^table t priority 0 -0 in x:int out y:int end", api.ErrTwice)
	met(t, "^table t priority 0.0 1.5 - 0.0 in x:int out y:dec end", api.ErrTwice)
	fine(t, "table t priority 1 -1 2 -2 in x:int out y:int end")
	fine(t, "table t priority 0.5 -0.5 5.0 in x:int out y:dec end")
	fine(t, "table t priority \"a\" \"A\" \"a \" in x:int out y:str end")
	fine(t, "table t priority "+numbered(32, " ", "%")+" in x:int out y:int end")
	for i := range 32 {
		for j := range i {
			l := strings.Split(numbered(32, " ", "%"), " ")
			l[i] = l[j]
			met(t, "^table t priority "+strings.Join(l, " ")+" in x:int out y:int end", api.ErrTwice)
			l[j] = "#a"
			met(t, "^table t priority "+strings.Join(l, " ")+" in x:int out y:int end", api.ErrKind)
		}
	}
	met(t, "^table t priority 1 1 \"u\" in x:int out y:int end", api.ErrKind)
	met(t, "^table t priority \"u\" \"u\" in x:int out y:int end", api.ErrKind)
	met(t, "^table t priority 1 1 in x:int x:int out y:str end", api.ErrTwice)
	met(t, "^table t priority 1 in x:int x:int out y:str end", api.ErrTwice)
	met(t, "^table t priority 1 in x:int out y:str row \"u\" : ?z end", api.ErrKind)
	met(t, "^table t priority 1 1 in x:int out y:int row \"u\" : ?z end", api.ErrTwice)
}

// P15.3: a row's tests: self is of the input's kind, variables are none.
func TestTestsOfRows(t *testing.T) {
	fits := map[string][]string{ // which inputs such a test is for
		"-": {"int", "dec", "str", "bool", "sym"}, "null": {"int", "dec", "str", "bool", "sym"}, "not(-, null)": {"int", "dec", "str", "bool", "sym"}, "?": {"int", "dec", "str", "bool", "sym"}, "not(?)": {"int", "dec", "str", "bool", "sym"},
		"1": {"int", "dec"}, "1.5": {"int", "dec"}, "-1": {"int", "dec"}, "> 1": {"int", "dec"}, "[1 .. 2.5)": {"int", "dec"}, "not(1, [2 .. 3])": {"int", "dec"}, "> ? + 1": {"int", "dec"}, "[abs(?) .. null]": {"int", "dec"},
		"\"u\"": {"str"}, "< \"u\"": {"str"}, "[\"a\" .. \"b\"]": {"str"}, "upper(?)": {"str"}, "<= length(?)": nil, "length(?)": nil, "true": {"bool"}, "not true": {"bool"}, "not ?": {"bool"}, "? and true": {"bool"}, "? = 1": nil, "contains(?, \"a\")": nil,
		"#a": {"sym"}, "not(#a, #b)": {"sym"}, "> null": {"int", "dec", "str"}, "mod(?, 2)": {"int"}, "? + 0.5": {"int", "dec"}, "< true": nil, "> #a": nil, "[null .. null]": {"int", "dec", "str"},
	}
	for test, kinds := range fits {
		for _, kind := range kindNames[1:6] {
			s := "table t any in x:" + kind + " out y:int row " + test + " : 1 end"
			if slices.Contains(kinds, kind) {
				fine(t, s)
				fine(t, "table t any in w:sym x:"+kind+" out y:int row #a, "+test+" : 1 row -, "+test+" : 2 end")
			} else if at, e := Check(mustParse(t, s)); e != api.ErrKind || at.Line != 1 || at.Col < strings.Index(s, "row ")+5 {
				t.Errorf("Check(%q) = %v, %d", s, at, e)
			}
			a := mustParse(t, s)
			at, e := unary.Check(a.Rows[0].Tests[0], api.Scope{Self: a.In[0].Kind})
			holdCheck(t, a, at, e, s)
		}
	}
	for _, x := range []wrongOne{
		{"> ^?x", api.ErrScope}, {"^?y", api.ErrScope}, {"^?t", api.ErrScope}, {"^?x", api.ErrScope}, {"[1 .. ^?x]", api.ErrScope}, {"not(1, 2, > 3 + ^?w)", api.ErrScope}, {"= ^?x", api.ErrScope}, {"min(1, ^?x)", api.ErrScope}, {"[^?v .. ?w]", api.ErrScope}, {"> ^?z", api.ErrScope},
		{"^\"u\"", api.ErrKind}, {"^> \"u\"", api.ErrKind}, {"^[1 .. \"u\"]", api.ErrKind}, {"not(1, ^true)", api.ErrKind}, {"> 1 ^+ \"u\"", api.ErrKind}, {"^#a", api.ErrKind}, {"not(not(^< #a))", api.ErrKind}, {"^length(1)", api.ErrKind}, {"> ^if(1, 2, 3)", api.ErrKind}, {"1 ^and 2", api.ErrKind}, {"^? = 1", api.ErrKind},
	} {
		met(t, "table t any in x:int out y:int row "+x.text+" : 1 end", x.want)
		met(t, "table t any in v:int x:int w:int out y:int row 1, 2, 3 : 4\n row -,\n "+x.text+", - : ?x end", x.want)
		met(t, "table t first in v:int x:dec out y:int row -, "+x.text+" : ?z row \"u\", \"v\" : ?z end", x.want)
	}
}

// P15.3: a row's expressions: the inputs are variables, there is no self; of
// its output's kind, or Null.
func TestExpressionsOfRows(t *testing.T) {
	ins := " in i:int d:dec s:str b:bool"
	kinds := map[string][]string{
		"int":  {"1", "-1", "?i", "?i + 1", "length(?s)", "mod(?i, 2)", "min(1, ?i)", "if(?b, 1, null)", "if(?b, null, ?i)", "abs(?i)", "- ?i"},
		"dec":  {"1.5", "?d", "?i + ?d", "?d * 2", "- ?d", "max(1, 0.5)", "if(true, ?d, ?d)"},
		"str":  {"\"u\"", "?s", "upper(?s)", "if(?b, \"u\", ?s)"},
		"bool": {"true", "?b", "not ?b", "?i > 1", "?d = ?i", "contains(?s, \"a\")", "?b and null", "null = ?s", "null or null"},
		"sym":  {"#a", "if(?b, #a, #b)", "if(?b, null, #b)"},
		"null": {"null", "if(?b, null, null)", "null + null", "- null", "abs(null)", "min(null, null)"},
	}
	for kind, exprs := range kinds {
		for _, x := range exprs {
			for _, out := range kindNames[1:6] {
				row := " row -, -, -, - : " + x
				if out == kind || kind == "null" {
					fine(t, "table t any"+ins+" out y:"+out+row+" end")
					fine(t, "table t any"+ins+" out z:sym y:"+out+" row -, -, -, - : #a, "+x+" end")
				} else {
					met(t, "table t any"+ins+" out y:"+out+" ^row -, -, -, - : "+x+" end", api.ErrKind)
					met(t, "table t any"+ins+" out y:"+out+" row -, -, -, - : null\n\n  ^row -, -, -,\n -\n : "+x+" end", api.ErrKind)
					met(t, "table t any"+ins+" out z:sym y:"+out+" w:int ^row -, -, -, - : #a, "+x+", ?z end", api.ErrKind)
				}
			}
		}
	}
	for _, x := range []wrongOne{
		{"^?", api.ErrScope}, {"^?y", api.ErrScope}, {"^?t", api.ErrScope}, {"?i + ^?", api.ErrScope}, {"^?z + ?i", api.ErrScope}, {"min(?i, ^?w)", api.ErrScope}, {"not ^?", api.ErrScope}, {"if(?b, 1, ^?e)", api.ErrScope},
		{"1 ^+ \"u\"", api.ErrKind}, {"?s ^- 1", api.ErrKind}, {"^not ?i", api.ErrKind}, {"?b ^= ?i", api.ErrKind}, {"^length(?i)", api.ErrKind}, {"^if(?i, 1, 2)", api.ErrKind}, {"^upper(#a)", api.ErrKind}, {"^-?s", api.ErrKind}, {"1 + (?s ^< 2)", api.ErrKind}, {"^mod(?d, 1)", api.ErrKind},
	} {
		for _, out := range kindNames[1:6] {
			met(t, "table t any"+ins+" out y:"+out+" row -, -, -, - : "+x.text+" end", x.want)
			met(t, "table t any"+ins+" out v:int y:"+out+" row -, -, -, - : 1, null\nrow -, -, -, -\n : 2, "+x.text+" row 1.5, \"u\", 1, 1 : \"u\", \"v\" end", x.want)
		}
	}
	// An output is no variable, whatever its name; an input is one by its own kind.
	met(t, "table t any in x:int out y:int row - : ^?y end", api.ErrScope)
	met(t, "table t any in x:int out x:str ^row - : ?x end", api.ErrKind)
	fine(t, "table t any in x:int out x:int row - : ?x end")
	fine(t, "table t any in x:int y:str out y:int x:str row -, - : ?x, ?y end")
}

// part is a part of a table: as it is well-formed, and otherwise.
type part struct {
	good string
	bad  []fault
}

// fault is a part that is wrong: where that is told, as which error; and when
// it is looked at: what is lower is looked at ahead.
type fault struct {
	text, at string
	want     api.Errno
	when     int
}

// tableParts tells a table's parts; a row's beginning is a part of its own.
func tableParts() []part {
	tests := func(when int, good, kind, scope string) part {
		return part{good, []fault{{kind, "here", api.ErrKind, when}, {scope, "here", api.ErrScope, when}}}
	}
	outs := func(when int, good, kind, other, scope string) part {
		return part{good, []fault{{kind, "row", api.ErrKind, when}, {other, "here", api.ErrKind, when}, {scope, "here", api.ErrScope, when}}}
	}
	l := []part{
		{good: "table t priority"},
		{"1 2 3", []fault{{"1 2 1", "table", api.ErrTwice, 3}, {"1 2.0 3", "table", api.ErrKind, 2}, {"1 1 \"u\"", "table", api.ErrKind, 2}}},
		{good: "in"},
		{"x:int y:str", []fault{{"x:int x:str", "table", api.ErrTwice, 0}}},
		{good: "out"},
		{"z:int w:sym", []fault{{"z:int z:sym", "table", api.ErrTwice, 1}}},
	}
	for r := range 3 {
		l = append(l, part{good: "row"}, tests(10*r+10, "> 1", "> 1 ^+ true", "> ^?x"), part{good: ","}, tests(10*r+11, "not(\"a\", null)", "not(\"a\", ^1)", "^?y"), part{good: ":"},
			outs(10*r+12, "?x + 1", "\"u\"", "?x ^+ ?y", "^? + 1"), part{good: ","}, outs(10*r+13, "#a", "1", "if(1 ^= #a, #a, #a)", "^?w"))
	}
	return append(l, part{good: "end"})
}

// write writes a table of its parts, some of them wrong, and marks where the
// fault of one of them is told.
func write(l []part, faults map[int]fault, told int) string {
	words := make([]string, len(l))
	table, row := 0, 0
	for i, x := range l {
		words[i] = x.good
		if b, ok := faults[i]; ok {
			words[i] = strings.ReplaceAll(b.text, "^", "")
		}
		if x.good == "row" && i < told {
			row = i
		}
	}
	switch b := faults[told]; b.at {
	case "here":
		words[told] = b.text
	case "row":
		words[row] = "^" + words[row]
	case "table":
		words[table] = "^" + words[table]
	}
	return strings.Join(words, " ")
}

// P15.3: each fault alone, and any two of them: what is looked at first is met.
func TestWhatIsMetFirst(t *testing.T) {
	l := tableParts()
	fine(t, write(l, nil, -1))
	pairs := 0
	for i, x := range l {
		for _, b := range x.bad {
			met(t, write(l, map[int]fault{i: b}, i), b.want)
			for j := range i {
				for _, c := range l[j].bad {
					told, want := i, b.want
					if c.when < b.when {
						told, want = j, c.want
					}
					met(t, write(l, map[int]fault{i: b, j: c}, told), want)
					pairs++
				}
			}
		}
	}
	if pairs < 400 {
		t.Errorf("only %d pairs", pairs)
	}
}

// modelCheck tells what Check has to, and in words what it is.
func modelCheck(a api.Table) (api.Place, api.Errno, string) {
	if _, fault := modelText(a); fault != "" {
		return api.Place{}, api.ErrForm, "may not be"
	}
	for _, l := range [][]api.Slot{a.In, a.Out} {
		names := map[string]int{}
		for _, x := range l {
			names[x.Name]++
		}
		if len(names) < len(l) {
			return a.At, api.ErrTwice, "names"
		}
	}
	if 7 <= a.Policy && a.Policy <= 9 && len(a.Out) > 1 {
		return a.At, api.ErrMany, "outputs"
	}
	if a.Policy == 7 && a.Out[0].Kind > 2 {
		return a.At, api.ErrKind, "a sum"
	}
	values := map[api.Value]int{}
	for _, v := range a.Order {
		values[v]++
	}
	for v := range values {
		if v.Kind != a.Out[0].Kind {
			return a.At, api.ErrKind, "a value's kind"
		}
	}
	if len(values) < len(a.Order) {
		return a.At, api.ErrTwice, "values"
	}
	for _, r := range a.Rows {
		for i := range a.In {
			if at, e := unary.Check(r.Tests[i], api.Scope{Self: a.In[i].Kind}); e != 0 {
				return at, e, fmt.Sprint("a test ", e)
			}
		}
		for i := range a.Out {
			kind, at, e := etype.Of(r.Outs[i], api.Scope{Vars: slices.Clone(a.In)})
			if e != 0 {
				return at, e, fmt.Sprint("an expression ", e)
			}
			if kind != 0 && kind != a.Out[i].Kind {
				return r.At, api.ErrKind, "an expression's kind"
			}
		}
	}
	return api.Place{}, api.OK, "none"
}

// holdChecked asks that a is answered as the model does, and tells what it met.
func holdChecked(t *testing.T, a api.Table) string {
	t.Helper()
	at, e, what := modelCheck(a)
	if place, got := Check(a); place != at || got != e || May(a) != (e == 0) {
		t.Fatalf("Check(%.2000v) = %v, %d, May %v; want %v, %d, %s", a, place, got, May(a), at, e, what)
	}
	return what
}

// maker makes tables by chance. It has the inputs in mind, so that few things
// are wrong with them; now and then it does as if it had not.
type maker struct {
	*rand.Rand
	wrongs int // of so many parts one is wrong
	in     []api.Slot
}

func (m *maker) slips() bool { return m.Intn(m.wrongs) == 0 }

func (m *maker) pick(l ...string) string { return l[m.Intn(len(l))] }

func (m *maker) slots(most int) []api.Slot {
	var l []api.Slot
	names := m.Perm(5)
	for i := range 1 + m.Intn(most) {
		l = append(l, api.Slot{Name: string(rune('v' + names[i])), Kind: uint8(1 + m.Intn(5))})
		if m.slips() && m.slips() {
			l[i].Name = "x"
		}
	}
	return l
}

func slotsText(l []api.Slot) string {
	var s string
	for _, x := range l {
		s += " " + x.Name + ":" + kindNames[x.Kind]
	}
	return s
}

func (m *maker) table() string {
	m.in = m.slots(4)
	p := 1 + m.Intn(10)
	most := 4
	if 7 <= p && p <= 9 && !m.slips() {
		most = 1
	}
	out := m.slots(most)
	if p == 7 && !m.slips() {
		out[0].Kind = uint8(1 + m.Intn(2))
	}
	s := "table t " + policyNames[p]
	if p == 3 {
		s += m.values(out[0].Kind)
	}
	s += "\nin" + slotsText(m.in) + m.pick("\n", " ") + "out" + slotsText(out) + "\n"
	for range m.Intn(5) {
		var tests, outs []string
		for _, x := range m.in {
			tests = append(tests, m.test(x.Kind))
		}
		for _, x := range out {
			outs = append(outs, m.expr(x.Kind, false))
		}
		s += "row " + strings.Join(tests, ", ") + m.pick(" : ", "\n :\n") + strings.Join(outs, ", ") + m.pick("\n", " ")
	}
	return s + "end"
}

func (m *maker) values(kind uint8) string {
	all := [][]string{nil, {"1", "-1", "0", "7"}, {"1.5", "-1.5", "0.0"}, {`"a"`, `""`, `"b"`}, {"true", "false"}, {"#a", "#b", "#c"}}
	var s string
	for _, i := range m.Perm(len(all[kind]))[:1+m.Intn(2)] {
		s += " " + all[kind][i]
	}
	if m.slips() {
		s += " " + m.pick(all[1+m.Intn(5)]...)
	}
	if m.slips() {
		s += " " + m.pick(all[kind]...)
	}
	return s
}

func (m *maker) test(kind uint8) string {
	switch m.Intn(6) {
	case 0:
		return m.pick("-", "null", "not(null)", "not(-)")
	case 1:
		if kind <= api.Str {
			return m.pick("> ", "< ", "<= ", ">= ") + m.expr(kind, true)
		}
	case 2:
		if kind <= api.Str {
			return m.pick("[", "(") + m.expr(kind, true) + " .. " + m.expr(kind, true) + m.pick("]", ")")
		}
	case 3:
		return "not(" + m.expr(kind, true) + ", " + m.expr(kind, true) + ")"
	}
	return "= " + m.expr(kind, true)
}

// expr writes an expression of that kind, or, now and then, of another one; of
// a test, with self; else with the inputs.
func (m *maker) expr(kind uint8, self bool) string {
	if m.slips() {
		kind = uint8(1 + m.Intn(5))
	}
	if m.slips() {
		return m.pick("?v", "?w", "?x", "?y", "?", "null", "1", "1 + \"u\"")
	}
	if self && m.Intn(5) == 0 {
		return "?"
	}
	for _, x := range m.in {
		if !self && x.Kind == kind && m.Intn(2) == 0 {
			return "?" + x.Name
		}
	}
	l := [][]string{nil, {"1", "2 + 3", "length(\"u\")", "mod(7, 3)"}, {"1.5", "1 + 0.5"}, {"\"u\"", "upper(\"v\")"}, {"true", "1 < 2", "null or false"}, {"#a", "#b"}}[kind]
	return m.pick(append(l, "null")...)
}

// P15.3: tables by chance, with few faults and with many.
func TestChecksByChance(t *testing.T) {
	what := map[string]int{}
	for _, wrongs := range []int{4, 10, 40, 200} {
		m := &maker{Rand: rand.New(rand.NewSource(int64(wrongs))), wrongs: wrongs}
		for range 700 {
			what[holdChecked(t, mustParse(t, m.table()))]++
		}
	}
	for _, x := range []string{"none", "names", "outputs", "a sum", "a value's kind", "values", "a test 8", "a test 11", "an expression 8", "an expression 11", "an expression's kind"} {
		if what[x] < 8 {
			t.Errorf("few tables with that: %s: %v", x, what)
		}
	}
}

// P15.3: a well-formed table with one part alone another one, and others with
// a part or two changed by chance.
func TestChecksOfEachPart(t *testing.T) {
	what := map[string]int{}
	all := mustParse(t, full)
	for i, of := range partsOf(&all) {
		for k := range changes(of) {
			a := mustParse(t, full)
			changes(partsOf(&a)[i])[k]()
			what[holdChecked(t, a)]++
		}
	}
	m := &maker{Rand: rand.New(rand.NewSource(19)), wrongs: 100}
	for range 80 {
		a := mustParse(t, m.table())
		for range 10 {
			b := copyOf(a)
			for range 1 + m.Intn(2) {
				l := partsOf(&b)
				if c := changes(l[m.Intn(len(l))]); len(c) > 0 {
					c[m.Intn(len(c))]()
				}
			}
			what[holdChecked(t, b)]++
		}
	}
	for _, x := range []string{"none", "may not be", "a value's kind", "a test 8", "a test 11", "an expression 8", "an expression 11", "an expression's kind"} {
		if what[x] == 0 {
			t.Errorf("no change with that: %s: %v", x, what)
		}
	}
}

// P15.3: places are told as the table has them, whatever they are.
func TestPlaces(t *testing.T) {
	some := api.Place{Line: -7, Col: 1 << 40}
	l := tableParts()
	for i, x := range l {
		for _, b := range x.bad {
			s, place := marked(t, write(l, map[int]fault{i: b}, i))
			a := mustParse(t, s)
			n := 0
			for _, v := range partsOf(&a) {
				if at, ok := v.Addr().Interface().(*api.Place); ok {
					if *at == place {
						n++
						*at = some
					} else {
						*at = api.Place{Line: 1, Col: 1}
					}
				}
			}
			if n == 0 {
				t.Fatalf("no such place in %q", s)
			}
			holdCheck(t, a, some, b.want, s)
			for _, v := range partsOf(&a) {
				if at, ok := v.Addr().Interface().(*api.Place); ok {
					*at = api.Place{}
				}
			}
			holdCheck(t, a, api.Place{}, b.want, s)
		}
	}
	a := mustParse(t, full)
	for _, v := range partsOf(&a) {
		if at, ok := v.Addr().Interface().(*api.Place); ok {
			*at = some
		}
	}
	holdCheck(t, a, api.Place{}, api.OK, "with other places")
	if s, e := Text(a); s != full || e != api.OK {
		t.Errorf("with other places: %q, %d", s, e)
	}
}

// P15.3: any tables, and ErrForm whatever else is wrong.
func TestAnyTablesChecked(t *testing.T) {
	r := rand.New(rand.NewSource(18))
	for range 3000 {
		holdChecked(t, anyTable(r))
	}
	l := tableParts()
	for i, x := range l {
		for _, b := range x.bad {
			s, _ := marked(t, write(l, map[int]fault{i: b}, i))
			for _, change := range []func(a *api.Table){
				func(a *api.Table) { a.Name = "" }, func(a *api.Table) { a.Policy = 0 }, func(a *api.Table) { a.Policy = api.PolAny }, func(a *api.Table) { a.Order = nil }, func(a *api.Table) { a.Order[1] = api.Value{} }, func(a *api.Table) { a.In = a.In[:1] }, func(a *api.Table) { a.Out = nil },
				func(a *api.Table) { a.Out[1].Kind = 0 }, func(a *api.Table) { a.Rows[2].Outs[1] = nil }, func(a *api.Table) { a.Rows[2].Tests = a.Rows[2].Tests[:1] }, func(a *api.Table) { a.Rows = slices.Repeat(a.Rows, 11) },
			} {
				a := mustParse(t, s)
				change(&a)
				holdCheck(t, a, api.Place{}, api.ErrForm, s)
			}
		}
	}
	if at, e := Check(api.Table{}); at != (api.Place{}) || e != api.ErrForm || May(api.Table{}) {
		t.Errorf("Check of nothing: %v, %d", at, e)
	}
}
