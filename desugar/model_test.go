package desugar

import (
	"fmt"
	"math/rand"
	"slices"
	"strings"
	"testing"

	"witan/api"
	"witan/eprint"
	"witan/eval"
	"witan/hit"
	"witan/rprint"
	"witan/rule"
	"witan/table"
	"witan/unary"
)

var kindNames = []string{"", "int", "dec", "str", "bool", "sym"}

// programText writes the program of a table that may be, line by line: its
// templates, and each of its rules.
func programText(t testing.TB, a api.Table) (string, []string) {
	t.Helper()
	said := func(s string, e api.Errno) string {
		if e != api.OK {
			t.Fatalf("a part of %s has no text: %d", short(a), e)
		}
		return s
	}
	head := "template inputs"
	for i, s := range a.In {
		head += fmt.Sprintf(" i%d:%s", i+1, kindNames[s.Kind])
	}
	head += "\ntemplate hit n:int"
	for i, s := range a.Out {
		head += fmt.Sprintf(" o%d:%s", i+1, kindNames[s.Kind])
	}
	var rules []string
	for i, row := range a.Rows {
		var asked, bound, sets []string
		for k, x := range row.Tests {
			asked = append(asked, fmt.Sprintf("i%d: %s", k+1, said(unary.Text(x))))
			bound = append(bound, fmt.Sprintf("i%d: ?%s", k+1, a.In[k].Name))
		}
		for k, x := range row.Outs {
			sets = append(sets, fmt.Sprintf("o%d: %s", k+1, said(eprint.Text(x))))
		}
		s := fmt.Sprintf("rule r%d -%d\nwhen\n  inputs(%s)\n  inputs(%s)\nthen\n  assert hit(n: %d, %s)\n", i+1, i+1, strings.Join(asked, ", "), strings.Join(bound, ", "), i+1, strings.Join(sets, ", "))
		if a.Policy == 2 {
			s += "  halt\n"
		}
		rules = append(rules, s+"end\n")
	}
	return head + "\n", rules
}

// holdModel asks that a table's program is the one that the model writes.
func holdModel(t *testing.T, a api.Table) {
	t.Helper()
	head, rules := programText(t, a)
	text := head + strings.Join(rules, "")
	holdProgram(t, a, text)
	p, _ := Program(a)
	if told, e := rprint.Text(p); told != text || e != api.OK {
		t.Errorf("the text of Program(%s): %s, %d; want %s", short(a), short(told), e, short(text))
	}
}

// testTexts are tests of each kind of input.
func testTexts(kind uint8) []string {
	any := []string{"-", "null", "not(null)", "not(-)", "= null", "not(not(not(not(-))))", "?", "not(null, ?)"}
	return append(any, [][]string{
		{"1", "-1", "- 2", "> 1", "<= 2.5", "= 3", "[1 .. 5)", "(-1 .. ? + 1]", "not(1, 2, > 7)", "(2)", "6 / ?", "= 1 / 0", "min(?, 2, 3)", "if(? > 1, 2, null)"},
		{"1.5", "< 1", "(0.5 .. 2]", "abs(?)", "not(1.5, [2 .. 3])", "-0.0001", "? * 2 - 1"},
		{`"a"`, `>= "b"`, "upper(?)", `", i2: "`, `not("a", "b")`, `")"`},
		{"true", "not(true)", "not ?", "? and false", `contains("ab", "a")`, "1 < 2"},
		{"#a", "not(#a, #b)", "#halt", `if(length("") = 0, ?, #b)`},
	}[kind-1]...)
}

// exprTexts are expressions of each kind, of whatever inputs.
func exprTexts(kind uint8) []string {
	return append([]string{"null", "if(true, null, null)"}, [][]string{
		{"1", "-5", "1 + 2 * 3", "1 / 0", "9223372036854775807", "mod(7, 2)", "- (1 - 2)"},
		{"1.5", "0.5 - 2", "min(1, 2.0)", "1.0 / 3"},
		{`"a"`, `""`, `upper("u")`, `")"`, `"then halt"`},
		{"true", "false", "not true", "1 = 2", "1 / 0 = 1", "false and true or true"},
		{"#a", "#end", "if(true, #a, #b)"},
	}[kind-1]...)
}

// written is a table by chance, as text, and the kinds of its inputs.
func written(r *rand.Rand, rows int) string {
	policy := 1 + r.Intn(10)
	names := []string{"a", "b", "t", "x", "y1", "i1", "i2", "o1", "n", "r1", "hit", "inputs", "abcdefghijkl", "int", "sum", "any"}
	slots := func(many int, kinds []uint8) (string, []api.Slot) {
		var l []api.Slot
		s := ""
		for _, i := range r.Perm(len(names))[:many] {
			l = append(l, api.Slot{Name: names[i], Kind: kinds[r.Intn(len(kinds))]})
			s += fmt.Sprintf(" %s:%s", names[i], kindNames[l[len(l)-1].Kind])
		}
		return s, l
	}
	all := []uint8{1, 2, 3, 4, 5}
	size, kinds := 1+r.Intn(4), all
	switch policy {
	case 3:
		kinds = all[:1]
	case 7:
		size, kinds = 1, all[:2]
	case 8, 9:
		size = 1
	}
	head, in := slots(1+r.Intn(4), all)
	tail, out := slots(size, kinds)
	s := "table " + names[r.Intn(len(names))] + " " + policyWords()[policy] + " in" + head + " out" + tail
	for range rows {
		var tests, outs []string
		for _, x := range in {
			l := testTexts(x.Kind)
			if r.Intn(2) == 0 { // so that rows pass
				l = l[:1]
			}
			tests = append(tests, l[r.Intn(len(l))])
		}
		for _, x := range out {
			l := exprTexts(x.Kind)
			for _, y := range in {
				if y.Kind == x.Kind {
					l = append(l, "?"+y.Name, "?"+y.Name, "if(null, ?"+y.Name+", null)")
				}
			}
			outs = append(outs, l[r.Intn(len(l))])
		}
		s += []string{" ", "\n", "\n\n  "}[r.Intn(3)] + "row " + strings.Join(tests, ", ") + " : " + strings.Join(outs, ", ")
	}
	return s + " end"
}

// valuesByChance makes inputs that fit.
func valuesByChance(r *rand.Rand, in []api.Slot) []api.Value {
	var l []api.Value
	for _, s := range in {
		texts := [][]string{{"0", "1", "2", "3", "-1", "7"}, {"0.5", "1.5", "-0.0001", "2.0"}, {`"a"`, `"b"`, `""`, `"A"`}, {"true", "false"}, {"#a", "#b", "#halt"}}[s.Kind-1]
		v := one(texts[r.Intn(len(texts))])
		if r.Intn(6) == 0 {
			v = api.Value{}
		}
		l = append(l, v)
	}
	return l
}

// P17.1: programs of tables by chance, of as many rows as may be.
func TestProgramsByChance(t *testing.T) {
	r := rand.New(rand.NewSource(17))
	for i := range 400 {
		rows := r.Intn(4)
		if i%10 == 0 {
			rows = r.Intn(33)
		}
		if holdModel(t, tableOf(t, written(r, rows))); t.Failed() {
			break
		}
	}
}

// P17.1: no row, each number of them, up to as many as may be; as many inputs
// and outputs as may be.
func TestSizes(t *testing.T) {
	r := rand.New(rand.NewSource(1))
	for rows := range 33 {
		holdModel(t, tableOf(t, written(r, rows)))
		p, e := Program(tableOf(t, "table t first in x:int out y:int "+strings.Repeat("row - : ?x ", rows)+"end"))
		if len(p.Rules) != rows || e != api.OK {
			t.Errorf("%d rules of %d rows, %d", len(p.Rules), rows, e)
		}
		for i, x := range p.Rules {
			if x.Name != fmt.Sprint("r", i+1) || x.Salience != -1-i || len(x.Acts) != 2 {
				t.Errorf("rule %d: %+v", i, x)
			}
		}
	}
	for ins := 1; ins <= 4; ins++ {
		for outs := 1; outs <= 4; outs++ {
			s := "table t any in " + strings.Join([]string{"a:int", "b:int", "c:int", "d:int"}[:ins], " ") + " out " + strings.Join([]string{"a:int", "b:int", "c:int", "d:int"}[:outs], " ")
			s += strings.Repeat(" row "+strings.Join([]string{"1", "2", "3", "4"}[:ins], ", ")+" : "+strings.Join([]string{"5", "6", "7", "8"}[:outs], ", "), 32) + " end"
			holdModel(t, tableOf(t, s))
		}
	}
}

// P17.1: tests and expressions as great and as deep as may be.
func TestGreatParts(t *testing.T) {
	open := func(word string, many int) string {
		return strings.Repeat(word+"(", many) + "?x" + strings.Repeat(")", many)
	}
	sum := "abs(1" + strings.Repeat(" + 1", 29) + ")"
	for _, x := range []struct{ test, out string }{
		{"not(1" + strings.Repeat(", 1", 27) + ")", sum},
		{"not(not(not(not(1, 2))))", strings.Repeat("- ", 12) + "?x"},
		{"> " + sum, open("", 12) + " + " + open("", 12)},
		{"[" + sum + " .. " + sum + ")", open("abs", 12)},
		{strings.Repeat("- ", 12) + "1", "max(1, 2, 3, 4, 5, 6, 7, min(1, 2, 3, 4, 5, 6, 7, ?x))"},
	} {
		s := "table t collect in x:int y:int out z:int w:int"
		for range 32 {
			s += " row " + x.test + ", " + x.test + " : " + x.out + ", " + x.out
		}
		holdModel(t, tableOf(t, s+" end"))
	}
}

// longTable makes a table of 32 rows, with so many bytes in texts.
func longTable(t *testing.T, bytes int) api.Table {
	t.Helper()
	s := "table t first in a:str b:str c:str d:str out e:str f:str g:str h:str"
	for range 32 {
		var l []string
		for range 8 {
			n := min(bytes, 400)
			l = append(l, `"`+strings.Repeat(`\"`, n/2)+strings.Repeat("u", n%2)+`"`)
			bytes -= n
		}
		s += "\nrow " + strings.Join(l[:4], ", ") + " : " + strings.Join(l[4:], ", ")
	}
	a, at, e := table.Parse(s + "\nend")
	if e != api.OK {
		t.Fatal(at, e)
	}
	return a
}

// P17.1: a table that may be has its program, also where the text of that would
// be longer than a source, so that it is not well-formed.
func TestLongPrograms(t *testing.T) {
	none := longTable(t, 0)
	source, _ := table.Text(none)
	head, rules := programText(t, none)
	left := api.MaxSource - len(head+strings.Join(rules, ""))
	holdModel(t, longTable(t, left))
	for _, bytes := range []int{left, left + 1, left + 2, api.MaxSource - len(source) - 1, api.MaxSource - len(source)} {
		a := longTable(t, bytes)
		p, e := Program(a)
		head, rules := programText(t, a)
		if e != api.OK || len(p.Rules) != 32 || rprint.May(p) != (bytes <= left) {
			t.Fatalf("%d bytes: %d rules, %d", bytes, len(p.Rules), e)
		}
		for i, x := range p.Rules {
			q := programOf(t, head+rules[i])
			if !rule.Same(api.Program{Templates: p.Templates, Rules: []api.Rule{x}}, q) {
				t.Errorf("%d bytes, rule %d: %s; want %s", bytes, i, short(x), short(rules[i]))
			}
		}
		in := values(`"u" "" null "u"`)
		holdInputs(t, a, in, api.OK)
		holdHits(t, a, []api.Fact{{T: 1, S: values(`1 "u" "" null "u"`)}}, [][]api.Value{in})
	}
	long := longTable(t, api.MaxSource-len(source))
	long.Rows[31].Outs[3][0].V.S += "u"
	if table.May(long) {
		t.Error("the table is not too long")
	}
	holdForm(t, long, "a table that is too long")
}

// bindings are those of a rule's second pattern, of a fact that has a value for
// each of its slots.
func bindings(p api.Program, x api.Rule, f api.Fact) []api.Binding {
	var l []api.Binding
	for i, s := range x.Conds[1].Patterns[0].Slots {
		name, ok := unary.Var(s.Test)
		if !ok || p.Templates[f.T].Slots[i].Name != s.Slot {
			return nil
		}
		l = append(l, api.Binding{Name: name, V: f.S[i]})
	}
	return l
}

// matches tells whether a fact passes a rule's first pattern.
func matches(p api.Program, x api.Rule, f api.Fact) bool {
	first := x.Conds[0].Patterns[0]
	for i, s := range first.Slots {
		if p.Templates[f.T].Slots[i].Name != s.Slot || !unary.Pass(s.Test, f.S[i], nil) {
			return false
		}
	}
	return p.Templates[f.T].Name == first.T
}

// asserted tells the values of the fact that a rule asserts, or an error.
func asserted(x api.Rule, vars []api.Binding) ([]api.Value, api.Errno) {
	var l []api.Value
	for _, s := range x.Acts[0].Sets {
		v, e := eval.Value(s.E, api.Value{}, vars)
		if e != api.OK {
			return nil, e
		}
		l = append(l, v)
	}
	return l, api.OK
}

// What follows: of one fact of inputs the rules whose rows pass match it; what
// they assert is told as the outputs of those rows.
func TestRowsThatPass(t *testing.T) {
	r := rand.New(rand.NewSource(3))
	passed := map[int]int{}
	for range 800 {
		a := tableOf(t, written(r, r.Intn(6)))
		in := valuesByChance(r, a.In)
		f, e := Inputs(a, in)
		p, e2 := Program(a)
		rows, e3 := hit.Passing(a, in)
		if e != api.OK || e2 != api.OK || e3 != api.OK {
			t.Fatal(a, in, e, e2, e3)
		}
		var facts []api.Fact
		var want [][]api.Value
		for i, x := range p.Rules {
			passes := slices.Contains(rows, i)
			if matches(p, x, f) != passes {
				t.Errorf("rule %d of %v, of %v: matches %v; the rows %v pass", i, a, in, !passes, rows)
			}
			outs, e := hit.Outputs(a, i, in)
			s, e2 := asserted(x, bindings(p, x, f))
			if e != e2 {
				t.Errorf("row %d of %v, of %v: %d; its rule %d", i, a, in, e, e2)
			}
			if e == api.OK && passes {
				facts, want = append(facts, api.Fact{ID: 2 + i, T: 1, S: s}), append(want, outs)
			}
		}
		passed[len(want)]++
		facts = append(facts, f, api.Fact{ID: 9, T: 2, S: in}, api.Fact{T: 1})
		r.Shuffle(len(facts), func(i, k int) { facts[i], facts[k] = facts[k], facts[i] })
		if holdHits(t, a, facts, want); t.Failed() {
			break
		}
	}
	for n := range 4 {
		if passed[n] < 20 {
			t.Errorf("%d rows pass too seldom: %d", n, passed[n])
		}
	}
}

// inOrder tells the outputs of facts that are hits: of the least number first,
// of the same number as they stand.
func inOrder(outs int, facts []api.Fact) [][]api.Value {
	told := map[int]bool{}
	var l [][]api.Value
	for {
		least := -1
		for i, f := range facts {
			if told[i] || f.T != 1 || len(f.S) != outs+1 || f.S[0].Kind != api.Int {
				continue
			}
			if least < 0 || f.S[0].N < facts[least].S[0].N {
				least = i
			}
		}
		if least < 0 {
			return l
		}
		told[least] = true
		l = append(l, facts[least].S[1:])
	}
}

// P17.3: facts by chance, in every order, of few numbers and of many.
func TestHitsByChance(t *testing.T) {
	r := rand.New(rand.NewSource(9))
	for range 1500 {
		a := tableOf(t, written(r, r.Intn(2)))
		numbers := []int64{1, 2, 3, -1, 1 << 40, -1 << 63, 1<<63 - 1}[:1+r.Intn(7)]
		var facts []api.Fact
		for i := range []int{r.Intn(5), r.Intn(40), r.Intn(200)}[r.Intn(3)] {
			f := api.Fact{ID: r.Intn(9), T: 1, S: values("1")}
			f.S[0].N = numbers[r.Intn(len(numbers))]
			for range a.Out {
				f.S = append(f.S, api.Value{Kind: uint8(r.Intn(7)), N: int64(i)})
			}
			switch r.Intn(12) {
			case 0:
				f.T = r.Intn(4) - 1
			case 1:
				f.S = f.S[:r.Intn(len(f.S))]
			case 2:
				f.S = append(f.S, api.Value{})
			case 3:
				f.S[0].Kind = uint8(r.Intn(7))
			}
			facts = append(facts, f)
		}
		if holdHits(t, a, facts, inOrder(len(a.Out), facts)); t.Failed() {
			break
		}
	}
	// Each order of four numbers, some of them the same.
	a := tableOf(t, "table t any in x:int out y:int end")
	for n := range 256 {
		var facts []api.Fact
		for i := range 4 {
			facts = append(facts, api.Fact{T: 1, S: []api.Value{{Kind: 1, N: int64(n >> (2 * i) & 3)}, {Kind: 1, N: int64(i)}}})
		}
		holdHits(t, a, facts, inOrder(1, facts))
	}
}
