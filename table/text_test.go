package table

import (
	"fmt"
	"math/rand"
	"reflect"
	"regexp"
	"slices"
	"strings"
	"testing"
	"time"

	"witan/api"
	"witan/eprint"
	"witan/expr"
	"witan/unary"
	"witan/value"
	"witan/vtext"
)

// textModel tells a table's text, and whether it has one, without reading any:
// part by part, by what the chapters say that a table of a text has.
type textModel struct{ fault string }

func (m *textModel) need(holds bool, fault string) {
	if !holds && m.fault == "" {
		m.fault = fault
	}
}

var formOfNames = regexp.MustCompile(`^[a-z][a-z0-9]{0,11}$`)

func (m *textModel) name(s string) string {
	m.need(formOfNames.MatchString(s) && !slices.Contains(kept, s), "a name")
	return s
}

func (m *textModel) many(n, least, most int, what string) {
	m.need(least <= n && n <= most, "how many "+what)
}

func (m *textModel) values(a api.Table) string {
	if a.Policy != 3 {
		m.many(len(a.Order), 0, 0, "values of another policy")
	} else {
		m.many(len(a.Order), 1, 32, "values")
	}
	var s string
	for _, v := range a.Order {
		m.need(value.May(v) && v.Kind > 0, "a value")
		m.need(v.N != -1<<63, "the least value")
		s += " " + vtext.Text(v)
	}
	return s
}

func (m *textModel) slots(l []api.Slot, what string) string {
	m.many(len(l), 1, 4, what)
	var s string
	for _, x := range l {
		m.need(1 <= x.Kind && x.Kind <= 5, "a slot's kind")
		s += " " + m.name(x.Name) + ":" + nameIn(kindNames, x.Kind)
	}
	return s
}

func (m *textModel) row(r api.Row, a api.Table) string {
	m.many(len(r.Tests), len(a.In), len(a.In), "tests")
	m.many(len(r.Outs), len(a.Out), len(a.Out), "expressions")
	var tests, outs []string
	for _, x := range r.Tests {
		s, e := unary.Text(x)
		m.need(e == api.OK, "tests that may not be")
		m.need(len(x) == 0 || x[len(x)-1].Op != api.TestList, "a list of tests")
		tests = append(tests, s)
	}
	for _, x := range r.Outs {
		s, e := eprint.Text(x)
		m.need(e == api.OK, "an expression")
		outs = append(outs, s)
	}
	return "row " + strings.Join(tests, ", ") + " : " + strings.Join(outs, ", ") + "\n"
}

// modelText tells a table's text; nothing and why, if it has none.
func modelText(a api.Table) (string, string) {
	var m textModel
	m.need(1 <= a.Policy && a.Policy <= 10, "a policy")
	m.many(len(a.Rows), 0, 32, "rows")
	if m.fault != "" {
		return "", m.fault
	}
	s := "table " + m.name(a.Name) + " " + nameIn(policyNames, a.Policy) + m.values(a) + "\nin" + m.slots(a.In, "inputs") + "\nout" + m.slots(a.Out, "outputs") + "\n"
	for _, r := range a.Rows {
		if m.fault == "" {
			s += m.row(r, a)
		}
	}
	s += "end\n"
	m.need(len(s) <= 65536, "a text's length")
	if m.fault != "" {
		return "", m.fault
	}
	return s, ""
}

// has asks that a has that text, which is read as it.
func has(t *testing.T, a api.Table, want string) {
	t.Helper()
	if s, e := Text(a); s != want || e != api.OK {
		t.Errorf("Text(%.1000v) = %.1000q, %d; want %.1000q", a, s, e, want)
		return
	}
	b, at, e := Parse(want)
	if e != api.OK || at != (api.Place{}) || !Same(a, b) || !Same(b, a) {
		t.Errorf("%.1000q is read as %.1000v, %v, %d", want, b, at, e)
	}
	if s, e := Text(b); s != want || e != api.OK {
		t.Errorf("told again: %.1000q, %d; want %.1000q", s, e, want)
	}
}

// hasNone asks that a has no text, and so is not well-formed.
func hasNone(t *testing.T, a api.Table, what string) {
	t.Helper()
	if s, e := Text(a); s != "" || e != api.ErrForm {
		t.Errorf("%s: Text = %.1000q, %d", what, s, e)
	}
	if at, e := Check(a); at != (api.Place{}) || e != api.ErrForm || May(a) {
		t.Errorf("%s: Check = %v, %d, May %v", what, at, e, May(a))
	}
}

// holdText asks that a is answered as the model does, and tells what is at
// fault with it, if it has no text.
func holdText(t *testing.T, a api.Table) string {
	t.Helper()
	before := fmt.Sprintf("%v", a)
	want, fault := modelText(a)
	if fault != "" {
		hasNone(t, a, fault)
	} else {
		has(t, a, want)
	}
	if fmt.Sprintf("%v", a) != before {
		t.Fatalf("what was handed in is changed: %.1000v", a)
	}
	return fault
}

func testsOf(t *testing.T, s string) api.Tests {
	t.Helper()
	x, _, e := unary.Read(s)
	if e != api.OK {
		t.Fatalf("unary.Read(%.300q): %d", s, e)
	}
	return x
}

func exprOf(t *testing.T, s string) api.Expr {
	t.Helper()
	x, _, e := expr.Read(s)
	if e != api.OK {
		t.Fatalf("expr.Read(%.300q): %d", s, e)
	}
	return x
}

// P15.2: texts as they are told.
func TestTexts(t *testing.T) {
	for _, x := range []struct{ written, want string }{
		{"table t any in x:int out y:int end", "table t any\nin x:int\nout y:int\nend\n"},
		{"table t priority - 1 2 in x:int out y:int end", "table t priority -1 2\nin x:int\nout y:int\nend\n"},
		{"table t priority -0 1.5 - 0.5 \"a\\\"b\" #s true false in x:int out y:int end", "table t priority 0 1.5 -0.5 \"a\\\"b\" #s true false\nin x:int\nout y:int\nend\n"},
		{"table t first in x:int out y:int row > 1 : ?x row - : 0 end", "table t first\nin x:int\nout y:int\nrow > 1 : ?x\nrow - : 0\nend\n"},
		{"table t min in a:int b:dec c:str d:bool out w:sym x:int y:dec z:str row 1,(2),=3,not((4),-) : (1)+2,- 3,min(1,2),((?a)) end",
			"table t min\nin a:int b:dec c:str d:bool\nout w:sym x:int y:dec z:str\nrow 1, 2, 3, not(4, -) : 1 + 2, -3, min(1, 2), ?a\nend\n"},
		{"table t count in x:int out y:int row [1..2) : 1 row (1 .. ?x] : 1 row = not(1 and 2) : 1 row not(1 and 2) : 1 row = -1 : -1 end",
			"table t count\nin x:int\nout y:int\nrow [1 .. 2) : 1\nrow (1 .. ?x] : 1\nrow = not (1 and 2) : 1\nrow not(1 and 2) : 1\nrow -1 : -1\nend\n"},
		{full, full},
	} {
		has(t, mustParse(t, x.written), x.want)
	}
	for p, name := range policyNames[1:11] {
		a := api.Table{Name: "t", Policy: uint8(p + 1), In: []api.Slot{{Name: "x", Kind: 1}}, Out: []api.Slot{{Name: "y", Kind: 5}}}
		values := ""
		if name == "priority" {
			a.Order, values = []api.Value{{Kind: api.Str, S: "u"}}, " \"u\""
		}
		has(t, a, "table t "+name+values+"\nin x:int\nout y:sym\nend\n")
		a.Order, a.In, a.Out, a.Rows = slices.Clip(a.Order), slices.Clip(a.In), slices.Clip(a.Out), []api.Row{}
		has(t, a, "table t "+name+values+"\nin x:int\nout y:sym\nend\n")
	}
}

// P15.2: tables of texts made by chance have the model's text.
func TestTextsByChance(t *testing.T) {
	r := rand.New(rand.NewSource(15))
	for range 400 {
		w := &writer{Rand: r}
		w.table(32)
		s, _ := lay(r, w.words)
		if fault := holdText(t, mustParse(t, s)); fault != "" {
			t.Fatalf("what is read of %.2000q has no text: %s", s, fault)
		}
	}
}

// P15.2: a table with each part that one may have, and that part alone another
// one, is answered as the model does, whichever part it is.
func TestTextsOfEachPart(t *testing.T) {
	all := mustParse(t, full)
	faults := map[string]int{}
	for i, of := range partsOf(&all) {
		for k := range changes(of) {
			a := mustParse(t, full)
			changes(partsOf(&a)[i])[k]()
			faults[holdText(t, a)]++
		}
	}
	for _, fault := range []string{"", "a name", "a policy", "a slot's kind", "a value", "the least value", "an expression", "tests that may not be", "a list of tests", "how many values", "how many values of another policy", "how many inputs", "how many outputs", "how many rows", "how many tests", "how many expressions"} {
		if faults[fault] == 0 {
			t.Errorf("no change with that fault: %q: %v", fault, faults)
		}
	}
}

// P15.2: tables by chance, with a part or two changed by chance.
func TestChangesByChance(t *testing.T) {
	r := rand.New(rand.NewSource(16))
	met := map[bool]int{}
	for range 150 {
		w := &writer{Rand: r}
		w.table(4)
		a := mustParse(t, strings.Join(w.words, " "))
		for range 12 {
			b := copyOf(a)
			for range 1 + r.Intn(2) {
				l := partsOf(&b)
				if c := changes(l[r.Intn(len(l))]); len(c) > 0 {
					c[r.Intn(len(c))]()
				}
			}
			met[holdText(t, b) == ""]++
		}
	}
	if met[true] < 200 || met[false] < 200 {
		t.Errorf("tables with a text, and without: %v", met)
	}
}

// P15.2, P15.3, P1: any tables.
func TestAnyTables(t *testing.T) {
	r := rand.New(rand.NewSource(17))
	for range 5000 {
		holdText(t, anyTable(r))
	}
}

// one tells a table with one row, of one input and one output.
func one(x api.Tests, y api.Expr) api.Table {
	return api.Table{Name: "t", Policy: api.PolAny, In: []api.Slot{{Name: "x", Kind: api.Int}}, Out: []api.Slot{{Name: "y", Kind: api.Int}}, Rows: []api.Row{{Tests: []api.Tests{x}, Outs: []api.Expr{y}}}}
}

// P15.2: names, at each place where one stands, that layer 4 takes and such
// that it does not take.
func TestNames(t *testing.T) {
	names := []string{"a", "z", "a1", "x9y", "abcdefghijkl", "a23456789012", "int", "dec", "rows", "ends", "ins", "outs", "tables", "first", "priority", "any", "sum", "count", "unique",
		"", "A", "aB", "1", "1a", "_", "a_", "a-b", "-", "?", "?a", "#a", "\"a\"", "abcdefghijklm", " ", " a", "a ", "a b", "a\n", "\na", "a;", "a:", "a:int", "a:int b", "a:int\nout", "a(", ")", ",", "a\x00", "\xff", "é", "a\r", "a\t", "a any", "a any\nin x:int\nout y:int\nend\n;", "a ; b", "a end", strings.Repeat("a", 1000)}
	names = append(names, kept...)
	for _, s := range names {
		may := formOfNames.MatchString(s) && !slices.Contains(kept, s)
		for _, p := range []string{"any", "min", "priority 1"} {
			for _, x := range []struct {
				set  func(a *api.Table)
				text string
			}{
				{func(a *api.Table) { a.Name = s }, "table % " + p + "\nin v:int w:dec\nout x:int y:dec\nend\n"},
				{func(a *api.Table) { a.In[0].Name = s }, "table t " + p + "\nin %:int w:dec\nout x:int y:dec\nend\n"},
				{func(a *api.Table) { a.In[1].Name = s }, "table t " + p + "\nin v:int %:dec\nout x:int y:dec\nend\n"},
				{func(a *api.Table) { a.Out[0].Name = s }, "table t " + p + "\nin v:int w:dec\nout %:int y:dec\nend\n"},
				{func(a *api.Table) { a.Out[1].Name = s }, "table t " + p + "\nin v:int w:dec\nout x:int %:dec\nend\n"},
			} {
				a := mustParse(t, "table t "+p+" in v:int w:dec out x:int y:dec end")
				x.set(&a)
				if may {
					has(t, a, strings.ReplaceAll(x.text, "%", s))
				} else {
					hasNone(t, a, s)
				}
			}
		}
	}
}

// P15.2: tables whose parts are such that their texts would be read, as other
// tables.
func TestTextsThatAreReadAsMore(t *testing.T) {
	for what, change := range map[string]func(a *api.Table){
		"a policy in a name":           func(a *api.Table) { a.Name, a.Policy = "t any", 0 },
		"a policy's word in a name":    func(a *api.Table) { a.Name, a.Policy = "t any", 200 },
		"a priority in a name":         func(a *api.Table) { a.Name, a.Policy, a.Order = "t priority", 0, []api.Value{{Kind: 1}} },
		"a slot in a slot's name":      func(a *api.Table) { a.In[0].Name = "v:int x" },
		"an output in an input's name": func(a *api.Table) { a.In[0].Name, a.Out = "x:int out y:int row 1 : 1 end ;", nil },
		"outputs in an input's name":   func(a *api.Table) { a.In[0].Name = "v:int out w" },
		"a row in an output's name":    func(a *api.Table) { a.Out[0].Name = "y:int row 1 : 1 row 1 : 1 end ;" },
		"a whole table in a name":      func(a *api.Table) { a.Name = "t any in x:int out y:int row 1 : 1 end ;" },
		"a kind in a name":             func(a *api.Table) { a.In[0] = api.Slot{Name: "x:int ;", Kind: 0} },
		"no kind":                      func(a *api.Table) { a.In = []api.Slot{{Name: "x"}, {Name: "int", Kind: 1}} },
		"a blank ahead of a name":      func(a *api.Table) { a.Name = " t" },
		"values of another policy":     func(a *api.Table) { a.Order = []api.Value{{Kind: 1}} },
		"values without a text":        func(a *api.Table) { a.Order = []api.Value{{Kind: 77}} },
		"no tests":                     func(a *api.Table) { a.Rows[0].Tests = nil },
		"no expressions":               func(a *api.Table) { a.Rows[0].Outs = nil },
		"an empty row":                 func(a *api.Table) { a.Rows = append(a.Rows, api.Row{}) },
		"two tests as one":             func(a *api.Table) { a.In = append(a.In, a.In[0]); a.Rows[0].Tests[0] = testsOf(t, "1, 2") },
		"two tests of one":             func(a *api.Table) { a.Rows[0].Tests[0] = testsOf(t, "1, 2") },
		"a list of one": func(a *api.Table) {
			a.Rows[0].Tests[0] = append(testsOf(t, "1"), api.Test{Op: api.TestList, Kids: []int{0}})
		},
		"a test more":               func(a *api.Table) { a.Rows[0].Tests = append(a.Rows[0].Tests, testsOf(t, "1")) },
		"an expression more":        func(a *api.Table) { a.Rows[0].Outs = append(a.Rows[0].Outs, exprOf(t, "1")) },
		"empty tests":               func(a *api.Table) { a.Rows[0].Tests[0] = api.Tests{} },
		"an empty expression":       func(a *api.Table) { a.Rows[0].Outs[0] = api.Expr{} },
		"an input without a test":   func(a *api.Table) { a.In = append(a.In, api.Slot{Name: "v", Kind: 1}) },
		"an output without a value": func(a *api.Table) { a.Out = append(a.Out, api.Slot{Name: "v", Kind: 1}) },
	} {
		a := one(testsOf(t, "1"), exprOf(t, "1"))
		has(t, a, "table t any\nin x:int\nout y:int\nrow 1 : 1\nend\n")
		change(&a)
		hasNone(t, a, what)
	}
}

// P15.2: policies and kinds of slots, of which few are any; how many of each
// list there are.
func TestPoliciesKindsAndBounds(t *testing.T) {
	for n := range 256 {
		for _, order := range [][]api.Value{nil, {}, {{Kind: 1}}, {{Kind: 5, S: "a"}, {Kind: 5, S: "a"}}, {{}}, slices.Repeat([]api.Value{{Kind: 1}}, 32), slices.Repeat([]api.Value{{Kind: 1}}, 33)} {
			a := one(testsOf(t, "1"), exprOf(t, "1"))
			a.Policy, a.Order = uint8(n), order
			holdText(t, a)
		}
		for _, change := range []func(a *api.Table){
			func(a *api.Table) { a.In[0].Kind = uint8(n) }, func(a *api.Table) { a.Out[0].Kind = uint8(n) },
			func(a *api.Table) { a.Out = append(a.Out, api.Slot{Name: "z", Kind: uint8(n)}); a.Rows = nil },
			func(a *api.Table) { a.In = append(a.In, api.Slot{Name: "z", Kind: uint8(n)}); a.Rows = nil },
		} {
			a := one(testsOf(t, "1"), exprOf(t, "1"))
			change(&a)
			holdText(t, a)
		}
	}
	slots := func(n int) []api.Slot { return slices.Repeat([]api.Slot{{Name: "x", Kind: 3}}, n) }
	for ins := range 7 {
		for outs := range 7 {
			for tests := range 7 {
				for _, exprs := range []int{outs - 1, outs, outs + 1} {
					row := api.Row{Tests: slices.Repeat([]api.Tests{testsOf(t, "-")}, tests), Outs: slices.Repeat([]api.Expr{exprOf(t, "?x")}, max(exprs, 0))}
					a := api.Table{Name: "t", Policy: 2, In: slots(ins), Out: slots(outs), Rows: []api.Row{row}}
					holdText(t, a)
				}
			}
		}
	}
	for n := range 40 {
		a := one(testsOf(t, "1"), exprOf(t, "1"))
		a.Rows = slices.Repeat(a.Rows, n)
		if fault := holdText(t, a); (fault == "") != (n <= 32) {
			t.Errorf("%d rows: %s", n, fault)
		}
		a.Policy, a.Order = 3, slices.Repeat([]api.Value{{Kind: 1, N: 5}}, n)
		if fault := holdText(t, a); (fault == "") != (1 <= n && n <= 32) {
			t.Errorf("%d values: %s", n, fault)
		}
	}
}

// P15.2: values of priority, such as may be and such as may not.
func TestValuesOfPriority(t *testing.T) {
	for _, x := range []struct {
		v    api.Value
		text string // none: it has none
	}{
		{api.Value{Kind: 1}, "0"}, {api.Value{Kind: 1, N: 7}, "7"}, {api.Value{Kind: 1, N: -7}, "-7"}, {api.Value{Kind: 1, N: 1<<63 - 1}, "9223372036854775807"}, {api.Value{Kind: 1, N: 1 - 1<<63}, "-9223372036854775807"},
		{api.Value{Kind: 2}, "0.0"}, {api.Value{Kind: 2, N: -1}, "-0.0001"}, {api.Value{Kind: 2, N: 15000}, "1.5"}, {api.Value{Kind: 2, N: 1 - 1<<63}, "-922337203685477.5807"}, {api.Value{Kind: 2, N: 1<<63 - 1}, "922337203685477.5807"},
		{api.Value{Kind: 3}, `""`}, {api.Value{Kind: 3, S: `a"\`}, `"a\"\\"`}, {api.Value{Kind: 3, S: "in"}, `"in"`}, {api.Value{Kind: 3, S: strings.Repeat(`"`, 200)}, `"` + strings.Repeat(`\"`, 200) + `"`},
		{api.Value{Kind: 4}, "false"}, {api.Value{Kind: 4, N: 1}, "true"}, {api.Value{Kind: 5, S: "in"}, "#in"}, {api.Value{Kind: 5, S: "abcdefghijkl"}, "#abcdefghijkl"},
		// The least ones have a number that no word is.
		{api.Value{Kind: 1, N: -1 << 63}, ""}, {api.Value{Kind: 2, N: -1 << 63}, ""},
		{api.Value{}, ""}, {api.Value{N: 1}, ""}, {api.Value{S: "u"}, ""}, {api.Value{Kind: 6}, ""}, {api.Value{Kind: 6, S: "a"}, ""}, {api.Value{Kind: 255, N: 1}, ""},
		{api.Value{Kind: 1, N: 1, S: "u"}, ""}, {api.Value{Kind: 2, N: 1, S: "u"}, ""}, {api.Value{Kind: 3, N: 1, S: "u"}, ""}, {api.Value{Kind: 4, N: 2}, ""}, {api.Value{Kind: 4, N: -1}, ""}, {api.Value{Kind: 4, N: 1, S: "u"}, ""}, {api.Value{Kind: 5, N: 1, S: "a"}, ""},
		{api.Value{Kind: 3, S: "\n"}, ""}, {api.Value{Kind: 3, S: "\x7f"}, ""}, {api.Value{Kind: 3, S: "\xff"}, ""}, {api.Value{Kind: 3, S: strings.Repeat("a", 201)}, ""}, {api.Value{Kind: 5}, ""}, {api.Value{Kind: 5, S: "A"}, ""}, {api.Value{Kind: 5, S: "a b"}, ""}, {api.Value{Kind: 5, S: "abcdefghijklm"}, ""}, {api.Value{Kind: 5, S: "1"}, ""}, {api.Value{Kind: 5, S: "a 1"}, ""},
	} {
		for _, l := range []struct{ ahead, behind []api.Value }{{}, {ahead: []api.Value{{Kind: 1, N: 5}}}, {behind: []api.Value{{Kind: 1, N: 5}}}, {slices.Repeat([]api.Value{{Kind: 4}}, 15), slices.Repeat([]api.Value{{Kind: 4}}, 16)}} {
			a := api.Table{Name: "t", Policy: 3, In: []api.Slot{{Name: "x", Kind: 1}}, Out: []api.Slot{{Name: "y", Kind: 1}}}
			a.Order = slices.Concat(l.ahead, []api.Value{x.v}, l.behind)
			if x.text == "" {
				hasNone(t, a, fmt.Sprint(x.v))
				continue
			}
			s := "table t priority"
			for range len(l.ahead) {
				s += " " + vtext.Text(l.ahead[0])
			}
			s += " " + x.text
			for range len(l.behind) {
				s += " " + vtext.Text(l.behind[0])
			}
			has(t, a, s+"\nin x:int\nout y:int\nend\n")
		}
	}
}

// P15.2: tests and expressions that may not be, at each place of a row.
func TestTreesThatMayNotBe(t *testing.T) {
	tests := []api.Tests{nil, {}, {{}}, {{Op: 1, A: api.Expr{{Op: 3}}}}, {{Op: 2}}, {{Op: 2, A: api.Expr{{}}}}, {{Op: 9}}, {{Op: 1}, {Op: 1}}, {{Op: 1}, {Op: 8}}, {{Op: 1}, {Op: 8, Kids: []int{1}}}, {{Op: 1}, {Op: 8, Kids: []int{-1}}}, {{Op: 10}}, {{Op: 255}}, {{Op: 1, Kids: []int{0}}}, {{Op: 1, Low: true}}, {{Op: 7, A: api.Expr{{Op: 3}}}}, testsOf(t, "1, 2"), slices.Repeat(testsOf(t, "1"), 31), {{Op: 2, A: slices.Repeat(exprOf(t, "1"), 61)}}}
	exprs := []api.Expr{nil, {}, {{}}, {{Op: 2}}, {{Op: 2, Name: "A"}}, {{Op: 3, Name: "a"}}, {{Op: 6}}, {{Op: 3}, {Op: 3}}, {{Op: 3}, {Op: 6, Kids: []int{1}}}, {{Op: 1, V: api.Value{Kind: 1, N: -1}}}, {{Op: 1, V: api.Value{Kind: 9}}}, {{Op: 27}}, {{Op: 255}}, {{Op: 3, Kids: []int{0}}}, slices.Repeat(exprOf(t, "1"), 61)}
	for at := range 4 {
		for _, rows := range []int{1, 2, 32} {
			for _, x := range tests {
				a := mustParse(t, wide(4, 4)+strings.Repeat(rowOf(ones(4), ones(4)), rows)+" end")
				a.Rows[rows-1].Tests[at] = x
				hasNone(t, a, fmt.Sprint(x))
			}
			for _, x := range exprs {
				a := mustParse(t, wide(4, 4)+strings.Repeat(rowOf(ones(4), ones(4)), rows)+" end")
				a.Rows[rows-1].Outs[at] = x
				hasNone(t, a, fmt.Sprint(x))
			}
		}
	}
}

// sized is a table whose text has that many bytes.
func sized(t *testing.T, size int) (api.Table, string) {
	t.Helper()
	write := func(filled int) string {
		s := "table t any\nin a:str b:str c:str d:str\nout w:str x:str y:str z:str\n"
		for range 32 {
			var l []string
			for range 4 {
				var some []string
				for range 9 {
					n := min(filled, api.MaxText)
					filled -= n
					some = append(some, `"`+strings.Repeat("x", n)+`"`)
				}
				l = append(l, "not("+strings.Join(some, ", ")+")")
			}
			for range 4 {
				n := min(filled, api.MaxText)
				filled -= n
				l = append(l, `"`+strings.Repeat("x", n)+`"`)
			}
			s += "row " + strings.Join(l[:4], ", ") + " : " + strings.Join(l[4:], ", ") + "\n"
		}
		return s + "end\n"
	}
	s := write(size - len(write(0)))
	if len(s) != size {
		t.Fatalf("%d bytes; want %d", len(s), size)
	}
	// Written narrowly it is read, though its text be too long.
	a := mustParse(t, strings.ReplaceAll(s, ", ", ","))
	return a, s
}

// P15.2, P15.3: tables whose text is as long as a source, and longer.
func TestLongTexts(t *testing.T) {
	for _, n := range []int{20000, 60000, api.MaxSource - 1, api.MaxSource} {
		a, s := sized(t, n)
		has(t, a, s)
		if at, e := Check(a); at != (api.Place{}) || e != api.OK || !May(a) {
			t.Errorf("Check of %d bytes: %v, %d", n, at, e)
		}
	}
	for _, n := range []int{api.MaxSource + 1, api.MaxSource + 2, api.MaxSource + 300} {
		a, s := sized(t, n)
		hasNone(t, a, fmt.Sprint(n, " bytes"))
		if b, at, e := Parse(s); e != api.ErrLong || at != (api.Place{}) || !reflect.DeepEqual(b, api.Table{}) {
			t.Errorf("Parse of %d bytes: %v, %d", n, at, e)
		}
	}
}

// P1: tables of very many parts.
func TestVeryMany(t *testing.T) {
	const many = 1 << 17
	name := strings.Repeat("a", 1<<22)
	begun := time.Now()
	for what, change := range map[string]func(a *api.Table){
		"rows":            func(a *api.Table) { a.Rows = slices.Repeat(a.Rows, many) },
		"empty rows":      func(a *api.Table) { a.Rows = make([]api.Row, many) },
		"tests":           func(a *api.Table) { a.Rows[0].Tests = slices.Repeat(a.Rows[0].Tests, many) },
		"expressions":     func(a *api.Table) { a.Rows[0].Outs = slices.Repeat(a.Rows[0].Outs, many) },
		"no tests":        func(a *api.Table) { a.Rows[0].Tests = make([]api.Tests, many) },
		"no expressions":  func(a *api.Table) { a.Rows[0].Outs = make([]api.Expr, many) },
		"inputs":          func(a *api.Table) { a.In = slices.Repeat(a.In, many) },
		"outputs":         func(a *api.Table) { a.Out = slices.Repeat(a.Out, many) },
		"values":          func(a *api.Table) { a.Order = slices.Repeat(a.Order, many) },
		"values of none":  func(a *api.Table) { a.Order = make([]api.Value, many) },
		"a long name":     func(a *api.Table) { a.Name = name },
		"long names":      func(a *api.Table) { a.In = slices.Repeat([]api.Slot{{Name: name, Kind: 1}}, many) },
		"long values":     func(a *api.Table) { a.Order = slices.Repeat([]api.Value{{Kind: 3, S: name}}, many) },
		"nodes of a test": func(a *api.Table) { a.Rows[0].Tests[0] = slices.Repeat(a.Rows[0].Tests[0], many) },
		"nodes":           func(a *api.Table) { a.Rows[0].Outs[0] = slices.Repeat(a.Rows[0].Outs[0], many) },
		"long rows": func(a *api.Table) {
			a.Rows = slices.Repeat([]api.Row{{Tests: make([]api.Tests, many), Outs: make([]api.Expr, many)}}, 100)
		},
		"inputs, and tests": func(a *api.Table) {
			a.In, a.Rows[0].Tests = slices.Repeat(a.In, many), slices.Repeat(a.Rows[0].Tests, many)
		},
	} {
		a := mustParse(t, full)
		change(&a)
		hasNone(t, a, "very many "+what)
		if !Same(a, a) || Same(a, mustParse(t, full)) {
			t.Errorf("very many %s: the same as others", what)
		}
	}
	if d := time.Since(begun); d > 20*time.Second {
		t.Errorf("it took %v", d)
	}
}
