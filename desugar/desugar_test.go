package desugar

import (
	"fmt"
	"reflect"
	"slices"
	"strings"
	"testing"

	"witan/api"
	"witan/check"
	"witan/rprint"
	"witan/rule"
	"witan/table"
	"witan/vtext"
)

// short writes v, as far as may be read.
func short(v any) string {
	s := fmt.Sprint(v)
	return s[:min(len(s), 3000)]
}

// one tells the value of a text.
func one(text string) api.Value {
	v, e := vtext.Parse(text)
	if e != api.OK {
		panic("no value's text: " + text)
	}
	return v
}

// values tells those of texts with a blank between.
func values(s string) []api.Value {
	var l []api.Value
	for _, w := range strings.Fields(s) {
		l = append(l, one(w))
	}
	return l
}

// rowsOf tells rows of values, between which a "/" stands.
func rowsOf(s string) [][]api.Value {
	if s == "" {
		return nil
	}
	var l [][]api.Value
	for _, row := range strings.Split(s, "/") {
		l = append(l, values(row))
	}
	return l
}

// factsOf tells facts, between which a "/" stands: a template's number, values.
func factsOf(s string) []api.Fact {
	var l []api.Fact
	for i, row := range rowsOf(s) {
		l = append(l, api.Fact{ID: i + 1, T: int(row[0].N), S: row[1:]})
	}
	return l
}

// tableOf tells the table of a text; it may be.
func tableOf(t testing.TB, s string) api.Table {
	t.Helper()
	a, at, e := table.Parse(s)
	if e != api.OK || !table.May(a) {
		t.Fatalf("%s: %v, %d", short(s), at, e)
	}
	return a
}

// programOf tells the program of a text.
func programOf(t testing.TB, s string) api.Program {
	t.Helper()
	p, at, e := rule.Parse(s)
	if e != api.OK {
		t.Fatalf("%s: %v, %d", short(s), at, e)
	}
	return p
}

// withoutPlaces tells a program that has all that p has but places.
func withoutPlaces(p api.Program) api.Program {
	c := copyOf(p)
	for _, v := range partsOf(&c) {
		if v.Type() == reflect.TypeFor[api.Place]() {
			v.SetZero()
		}
	}
	return c
}

// isNone tells whether p has nothing.
func isNone(p api.Program) bool { return p.Templates == nil && p.At == nil && p.Rules == nil }

// holdProgram asks that the program of a is that of a text, with the places
// that it has to have; that it is well-formed, and its text is read as it.
func holdProgram(t *testing.T, a api.Table, text string) {
	t.Helper()
	p, e := Program(a)
	want := programOf(t, text)
	if e != api.OK || !rule.Same(p, want) {
		t.Errorf("Program(%s): %s, %d; want %s", short(a), short(p), e, short(text))
		return
	}
	holdPlaces(t, a, p, want)
	if at, e := check.Check(p); e != api.OK {
		t.Errorf("Program(%s) is not well-formed: %v, %d", short(a), at, e)
	}
	told, e := rprint.Text(p)
	if e != api.OK || !rule.Same(programOf(t, told), p) {
		t.Errorf("Program(%s), as text: %s, %d", short(a), short(told), e)
	}
}

// holdPlaces asks that p, which is want but for places, has none but within
// tests and expressions, where they are the table's.
func holdPlaces(t *testing.T, a api.Table, p, want api.Program) {
	t.Helper()
	want = withoutPlaces(want)
	for i, row := range a.Rows {
		r := want.Rules[i]
		for k, x := range row.Tests {
			r.Conds[0].Patterns[0].Slots[k].Test = copyOf(x)
		}
		for k, x := range row.Outs {
			r.Acts[0].Sets[k+1].E = copyOf(x)
		}
	}
	if got := copyOf(p); !reflect.DeepEqual(got, want) {
		t.Errorf("Program(%s): %s; want, with places, %s", short(a), short(got), short(want))
	}
}

// holdInputs asks for the fact of inputs, or for an error.
func holdInputs(t *testing.T, a api.Table, in []api.Value, want api.Errno) {
	t.Helper()
	var s []api.Value
	if want == api.OK {
		s = in
	}
	f, e := Inputs(a, in)
	if e != want || f.ID != 0 || f.T != 0 || !slices.Equal(f.S, s) || e != api.OK && f.S != nil {
		t.Errorf("Inputs(%s, %s) = %s, %d; want %d", short(a), short(in), short(f), e, want)
	}
}

// holdHits asks for the rows of facts: rows' texts.
func holdHits(t *testing.T, a api.Table, facts []api.Fact, want [][]api.Value) {
	t.Helper()
	l, e := Hits(a, facts)
	if e != api.OK || !slices.EqualFunc(l, want, slices.Equal[[]api.Value]) {
		t.Errorf("Hits(%s, %s) = %s, %d; want %s", short(a), short(facts), short(l), e, short(want))
	}
}

// holdForm asks that each call tells api.ErrForm and nothing beside it,
// whatever else is wrong.
func holdForm(t *testing.T, a api.Table, what string) {
	t.Helper()
	if p, e := Program(a); e != api.ErrForm || !isNone(p) {
		t.Errorf("Program(%s) = %s, %d", short(what), short(p), e)
	}
	for _, in := range []string{"1", `1 "a"`, "#a #b #c #d #e", ""} {
		holdInputs(t, a, values(in), api.ErrForm)
	}
	holdInputs(t, a, mayNot(), api.ErrForm)
	for _, facts := range []string{"", "1 1 2", "1 1 2 #a/1 1/0 1", "1 null 2"} {
		if l, e := Hits(a, factsOf(facts)); e != api.ErrForm || l != nil {
			t.Errorf("Hits(%s, %s) = %v, %d", short(what), facts, l, e)
		}
	}
}

// P17.1: the chapter's example, by what it is made of.
func TestExample(t *testing.T) {
	const text = "table t any in x:int out y:int row > 1 : ?x end"
	p, e := Program(tableOf(t, text))
	want := api.Program{
		Templates: []api.Template{{Name: "inputs", Slots: []api.Slot{{Name: "i1", Kind: api.Int}}}, {Name: "hit", Slots: []api.Slot{{Name: "n", Kind: api.Int}, {Name: "o1", Kind: api.Int}}}},
		At:        []api.Place{{}, {}},
		Rules: []api.Rule{{
			Name:     "r1",
			Salience: -1,
			Conds: []api.Cond{
				{Kind: api.CondIs, Patterns: []api.Pattern{{T: "inputs", Slots: []api.SlotTest{{Slot: "i1", Test: api.Tests{{Op: api.TestGt, A: api.Expr{{Op: api.OpLit, V: api.Value{Kind: api.Int, N: 1}, At: place(text, "1 :")}}, At: place(text, "> 1")}}}}}}},
				{Kind: api.CondIs, Patterns: []api.Pattern{{T: "inputs", Slots: []api.SlotTest{{Slot: "i1", Test: api.Tests{{Op: api.TestEq, A: api.Expr{{Op: api.OpVar, Name: "x"}}}}}}}}},
			},
			Acts: []api.Action{{Kind: api.ActAssert, Name: "hit", Sets: []api.Set{{Slot: "n", E: api.Expr{{Op: api.OpLit, V: api.Value{Kind: api.Int, N: 1}}}}, {Slot: "o1", E: api.Expr{{Op: api.OpVar, Name: "x", At: place(text, "?x")}}}}}},
		}},
	}
	if got, want := copyOf(p), copyOf(want); e != api.OK || !reflect.DeepEqual(got, want) {
		t.Errorf("%+v, %d; want %+v", got, e, want)
	}
}

// place tells where, in a text of one line, another one begins.
func place(s, begins string) api.Place {
	return api.Place{Line: 1, Col: 1 + strings.Index(s, begins)}
}

// P17.1: tables and their programs, as texts.
func TestPrograms(t *testing.T) {
	for _, x := range []struct{ table, program string }{
		{"table t any in x:int out y:int row > 1 : ?x end",
			"template inputs i1:int template hit n:int o1:int rule r1 -1 when inputs(i1: > 1) inputs(i1: ?x) then assert hit(n: 1, o1: ?x) end"},
		{"table t first in x:int out y:int row > 1 : ?x row - : 0 end",
			"template inputs i1:int template hit n:int o1:int rule r1 -1 when inputs(i1: > 1) inputs(i1: ?x) then assert hit(n: 1, o1: ?x) halt end rule r2 -2 when inputs(i1: -) inputs(i1: ?x) then assert hit(n: 2, o1: 0) halt end"},
		{"table t any in x:int out y:int end", "template inputs i1:int template hit n:int o1:int"},
		{"table t first in x:bool out y:sym z:str end", "template inputs i1:bool template hit n:int o1:sym o2:str"},
		// Each kind, of inputs and of outputs, in another order.
		{"table t order in a:int b:dec c:str d:bool out e:sym f:bool g:str h:dec row -, -, -, - : null, null, null, null end",
			"template inputs i1:int i2:dec i3:str i4:bool template hit n:int o1:sym o2:bool o3:str o4:dec rule r1 -1 when inputs(i1: -, i2: -, i3: -, i4: -) inputs(i1: ?a, i2: ?b, i3: ?c, i4: ?d) then assert hit(n: 1, o1: null, o2: null, o3: null, o4: null) end"},
		{"table t order in a:sym b:bool c:str d:dec out e:int f:dec g:str row #u, not ?, \"u\", 1.5 : 2, ?d, ?c end",
			"template inputs i1:sym i2:bool i3:str i4:dec template hit n:int o1:int o2:dec o3:str rule r1 -1 when inputs(i1: #u, i2: not ?, i3: \"u\", i4: 1.5) inputs(i1: ?a, i2: ?b, i3: ?c, i4: ?d) then assert hit(n: 1, o1: 2, o2: ?d, o3: ?c) end"},
		// Each form of a test; the inputs' order is kept, by their names and without.
		{"table t any in z:int y:int out x:int row 1, = 1 : 1 row <= 2, < 2 : 2 row >= 3, > 3 : 3 row [1 .. 2), (? .. 9] : 4 row not(1, 2), not(-) : 5 row null, (1) : 6 row -, - 1 : ?y - ?z row = null, not(not([1 .. 2], > 7)) : ?z - ?y end",
			"template inputs i1:int i2:int template hit n:int o1:int" +
				" rule r1 -1 when inputs(i1: 1, i2: = 1) inputs(i1: ?z, i2: ?y) then assert hit(n: 1, o1: 1) end" +
				" rule r2 -2 when inputs(i1: <= 2, i2: < 2) inputs(i1: ?z, i2: ?y) then assert hit(n: 2, o1: 2) end" +
				" rule r3 -3 when inputs(i1: >= 3, i2: > 3) inputs(i1: ?z, i2: ?y) then assert hit(n: 3, o1: 3) end" +
				" rule r4 -4 when inputs(i1: [1 .. 2), i2: (? .. 9]) inputs(i1: ?z, i2: ?y) then assert hit(n: 4, o1: 4) end" +
				" rule r5 -5 when inputs(i1: not(1, 2), i2: not(-)) inputs(i1: ?z, i2: ?y) then assert hit(n: 5, o1: 5) end" +
				" rule r6 -6 when inputs(i1: null, i2: 1) inputs(i1: ?z, i2: ?y) then assert hit(n: 6, o1: 6) end" +
				" rule r7 -7 when inputs(i1: -, i2: -1) inputs(i1: ?z, i2: ?y) then assert hit(n: 7, o1: ?y - ?z) end" +
				" rule r8 -8 when inputs(i1: null, i2: not(not([1 .. 2], > 7))) inputs(i1: ?z, i2: ?y) then assert hit(n: 8, o1: ?z - ?y) end"},
		// Names that the program has, too.
		{"table inputs any in i2:int i1:int out o2:int n:int row -, 1 : ?i1, ?i2 end",
			"template inputs i1:int i2:int template hit n:int o1:int o2:int rule r1 -1 when inputs(i1: -, i2: 1) inputs(i1: ?i2, i2: ?i1) then assert hit(n: 1, o1: ?i1, o2: ?i2) end"},
		{"table hit any in n:int hit:int inputs:int r1:int out inputs:int row 1, 2, 3, 4 : ?n + ?hit + ?inputs + ?r1 end",
			"template inputs i1:int i2:int i3:int i4:int template hit n:int o1:int rule r1 -1 when inputs(i1: 1, i2: 2, i3: 3, i4: 4) inputs(i1: ?n, i2: ?hit, i3: ?inputs, i4: ?r1) then assert hit(n: 1, o1: ?n + ?hit + ?inputs + ?r1) end"},
		// An input's name may be an output's.
		{"table t max in x:dec out x:dec row > 1 : ?x * 2 end",
			"template inputs i1:dec template hit n:int o1:dec rule r1 -1 when inputs(i1: > 1) inputs(i1: ?x) then assert hit(n: 1, o1: ?x * 2) end"},
		// Texts that look like more than one.
		{`table t any in x:str out y:str row ", i2: " : ") halt end" row "end" : "; ?" end`,
			`template inputs i1:str template hit n:int o1:str rule r1 -1 when inputs(i1: ", i2: ") inputs(i1: ?x) then assert hit(n: 1, o1: ") halt end") end rule r2 -2 when inputs(i1: "end") inputs(i1: ?x) then assert hit(n: 2, o1: "; ?") end`},
	} {
		a := tableOf(t, x.table)
		holdProgram(t, a, x.program)
		// Blanks, line ends and remarks change nothing but places.
		holdProgram(t, tableOf(t, strings.ReplaceAll(strings.ReplaceAll(x.table, " row ", " ; a remark\n\n  row  "), " out ", "\nout  ")), x.program)
	}
}

// P17.1: of all policies first alone has halt.
func TestPolicies(t *testing.T) {
	for policy, word := range policyWords() {
		halt := ""
		if policy == int(api.PolFirst) {
			halt = " halt"
		}
		a := tableOf(t, "table t "+word+" in x:int out y:int row 1 : 1 row 2 : 2 end")
		holdProgram(t, a, "template inputs i1:int template hit n:int o1:int rule r1 -1 when inputs(i1: 1) inputs(i1: ?x) then assert hit(n: 1, o1: 1)"+halt+" end rule r2 -2 when inputs(i1: 2) inputs(i1: ?x) then assert hit(n: 2, o1: 2)"+halt+" end")
		holdProgram(t, tableOf(t, "table t "+word+" in x:int out y:int end"), "template inputs i1:int template hit n:int o1:int")
	}
}

// policyWords are by the policies' numbers, with a list of priority's.
func policyWords() map[int]string {
	return map[int]string{1: "unique", 2: "first", 3: "priority 2 1", 4: "any", 5: "order", 6: "collect", 7: "sum", 8: "min", 9: "max", 10: "count"}
}

// P17.2: what fits is the fact; what does not is refused.
func TestInputs(t *testing.T) {
	kinds := []string{"", "int", "dec", "str", "bool", "sym"}
	texts := []string{"null", "1", "1.0", `"a"`, "true", "#a"}
	for k := 1; k < len(kinds); k++ {
		for n := 1; n <= 4; n++ {
			var slots, tests []string
			for i := range n {
				slots, tests = append(slots, string(rune('a'+i))+":"+kinds[k]), append(tests, "-")
			}
			a := tableOf(t, "table t any in "+strings.Join(slots, " ")+" out y:int row "+strings.Join(tests, ", ")+" : 1 end")
			fits := slices.Repeat([]api.Value{one(texts[k])}, n)
			for size := range 7 {
				holdInputs(t, a, slices.Repeat(fits[:1], size), want(size == n))
				holdInputs(t, a, make([]api.Value, size), want(size == n))
			}
			holdInputs(t, a, nil, api.ErrArg)
			for i := range n {
				for k2, text := range texts {
					l := slices.Clone(fits)
					l[i] = one(text)
					holdInputs(t, a, l, want(k2 == k || k2 == 0))
				}
				for _, v := range mayNot() {
					l := slices.Clone(fits)
					l[i] = v
					holdInputs(t, a, l, api.ErrArg)
				}
			}
		}
	}
	// Each input is asked for its own kind; whether a row passes is not asked.
	for _, rows := range []string{"", "row 9, -, -, - : 1 ", "row 1 / 0, -, -, - : 1 ", "row -, -, -, - : 1 / 0 "} {
		a := tableOf(t, "table t unique in a:int b:dec c:str d:sym out y:int "+rows+"end")
		holdInputs(t, a, values(`1 1.5 "u" #u`), api.OK)
		holdInputs(t, a, values(`null 1.5 null #u`), api.OK)
		holdInputs(t, a, values(`null null null null`), api.OK)
		holdInputs(t, a, values(`-9223372036854775808 -922337203685477.5808 "" #abcdefghijkl`), api.OK)
		for _, in := range []string{`1.5 1 "u" #u`, `1 1.5 #u "u"`, `1 1 "u" #u`, `1.0 1.5 "u" #u`, `1 1.5 "u" true`, `1 1.5 "u"`, `1 1.5 "u" #u #u`, `1.5 "u" #u`, `1 1.5 "u" #u null`, ""} {
			holdInputs(t, a, values(in), api.ErrArg)
		}
	}
}

// want tells the error of inputs that fit, or do not.
func want(fit bool) api.Errno {
	if fit {
		return api.OK
	}
	return api.ErrArg
}

// P17.3: facts of the second template, and no others; all their outputs.
func TestHits(t *testing.T) {
	a := tableOf(t, "table t unique in x:int out y:int z:str row - : 1, \"u\" row - : 2, null end")
	for facts, want := range map[string]string{
		"":                                   "",
		`1 1 7 "a"`:                          `7 "a"`,
		`1 1 null null`:                      `null null`,
		`0 1 7 "a"`:                          "",
		`2 1 7 "a"`:                          "",
		`-1 1 7 "a"`:                         "",
		`9223372036854775807 1 7 "a"`:        "",
		`-9223372036854775808 1 7 "a"`:       "",
		`4294967297 1 7 "a"`:                 "",
		`1 1 7`:                              "",
		`1 1`:                                "",
		`1`:                                  "",
		`1 1 7 "a" "a"`:                      "",
		`1 1 7 "a" null null null null null`: "",
		`1 null 7 "a"`:                       "",
		`1 1.0 7 "a"`:                        "",
		`1 "a" 7 "a"`:                        "",
		`1 true 7 "a"`:                       "",
		`1 #a 7 "a"`:                         "",
		// Outputs are told as they are, of whatever kinds.
		`1 1 "a" 7`:          `"a" 7`,
		`1 1 1.5 #b`:         `1.5 #b`,
		`1 2 true true`:      `true true`,
		`1 2 1 2/1 1 2 true`: `2 true/1 2`,
		// By rising row numbers, also such that no row has.
		`1 1 10 null/1 2 20 null`:                                                           `10 null/20 null`,
		`1 2 20 null/1 1 10 null`:                                                           `10 null/20 null`,
		`1 3 30 null/1 1 10 null/1 2 20 null`:                                               `10 null/20 null/30 null`,
		`1 0 0 null/1 -1 9 null/1 77 1 null`:                                                `9 null/0 null/1 null`,
		`1 9223372036854775807 1 null/1 -9223372036854775808 2 null/1 0 3 null`:             `2 null/3 null/1 null`,
		`1 4294967296 1 null/1 1 2 null/1 2147483648 3 null`:                                `2 null/3 null/1 null`,
		`1 10 1 null/1 9 2 null/1 2 3 null`:                                                 `3 null/2 null/1 null`,
		`1 9223372036854775807 1 null/1 9223372036854775806 2 null/1 1 3 null`:              `3 null/2 null/1 null`,
		`1 -9223372036854775807 1 null/1 -9223372036854775808 2 null/1 1 3 null`:            `2 null/1 null/3 null`,
		`1 9223372036854775807 1 null/1 -1 2 null/1 -9223372036854775808 3 null/1 5 4 null`: `3 null/2 null/4 null/1 null`,
		// Of the same number as they stand.
		`1 1 3 null/1 1 1 null/1 1 2 null`:                                  `3 null/1 null/2 null`,
		`1 2 5 null/1 1 3 null/1 2 4 null/1 1 1 null/1 1 2 null/1 2 0 null`: `3 null/1 null/2 null/5 null/4 null/0 null`,
		`1 1 1 "a"/1 1 1 "a"`:                                               `1 "a"/1 "a"`,
		// Those between that are none change nothing.
		`0 5/1 2 20 null/1 2/1 1.0 1 null/1 1 10 null/2 0 0 null/1 null null null/0 1 2 null/1 1 10 null null`: `10 null/20 null`,
	} {
		holdHits(t, a, factsOf(facts), rowsOf(want))
	}
	holdHits(t, a, []api.Fact{}, nil)
	holdHits(t, a, make([]api.Fact, 5), nil)
	holdHits(t, a, []api.Fact{{T: 1}, {T: 1, S: []api.Value{}}}, nil)
}

// P17.3: of each number of outputs; ids are of no account.
func TestHitsOfSizes(t *testing.T) {
	for n := 1; n <= 4; n++ {
		a := tableOf(t, "table t any in x:int out "+strings.Join([]string{"a:int", "b:dec", "c:str", "d:sym"}[:n], " ")+" end")
		for size := range 10 {
			for _, id := range []int{0, 1, -1, 1 << 40} {
				s := append(values("1"), slices.Repeat(values("5"), size)...)
				var want [][]api.Value
				if size == n {
					want = [][]api.Value{s[1:]}
				}
				holdHits(t, a, []api.Fact{{ID: id, T: 1, S: s}}, want)
				holdHits(t, a, []api.Fact{{ID: id, T: 0, S: s}, {ID: id, T: 2, S: s}}, nil)
			}
		}
	}
	// Facts come by their numbers, whatever their ids.
	a := tableOf(t, "table t any in x:int out y:int end")
	l := factsOf("1 1 1/1 2 2/1 3 3")
	l[0].ID, l[1].ID, l[2].ID = 9, 3, 3
	holdHits(t, a, l, rowsOf("1/2/3"))
	slices.Reverse(l)
	holdHits(t, a, l, rowsOf("1/2/3"))
}

// P17.3: values that may not be are told, where they are outputs; the first one
// is asked for its kind alone.
func TestHitsThatMayNotBe(t *testing.T) {
	a := tableOf(t, "table t any in x:int out y:int z:int end")
	for _, v := range mayNot() {
		for i := range 2 {
			s := values("1 2 3")
			s[1+i] = v
			holdHits(t, a, []api.Fact{{T: 1, S: s}}, [][]api.Value{s[1:]})
		}
		s := append([]api.Value{v}, values("2 3")...)
		var want [][]api.Value
		if v.Kind == api.Int {
			want = rowsOf("2 3")
		}
		holdHits(t, a, []api.Fact{{T: 1, S: s}}, want)
	}
	for kind := range 256 {
		var want [][]api.Value
		if kind == int(api.Int) {
			want = rowsOf("2 3")
		}
		holdHits(t, a, []api.Fact{{T: 1, S: append([]api.Value{{Kind: uint8(kind), N: 1}}, values("2 3")...)}}, want)
	}
}
