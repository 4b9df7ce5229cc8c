package plan

import (
	"fmt"
	"reflect"
	"slices"
	"strings"
	"testing"

	"witan/api"
	"witan/check"
	"witan/rule"
	"witan/unary"
)

const templates = "template a x:int y:int\ntemplate b x:int y:int\n"

// program reads rules of a text's lines, each of which are conditions.
func program(t *testing.T, conds ...string) api.Program {
	t.Helper()
	s := templates
	for i, c := range conds {
		s += fmt.Sprintf("rule r%d when %s then halt end\n", i, c)
	}
	p, at, e := check.Source(s)
	if e != api.OK {
		t.Fatalf("%v at %v of %s", e, at, s)
	}
	return p
}

// drawn writes what a plan has, in short: its nodes with their Parents and alpha
// nodes, its Ends, its alpha nodes.
func drawn(t *testing.T, x api.Plan) string {
	t.Helper()
	var s strings.Builder
	for _, n := range x.Nodes {
		fmt.Fprint(&s, n.Parent)
		if len(n.Alphas) > 0 {
			fmt.Fprint(&s, n.Alphas)
		}
		s.WriteByte(' ')
	}
	fmt.Fprint(&s, "ends ", x.Ends, " alphas")
	for _, n := range x.Alphas {
		if n.Parent == -1 && n.Slot == -1 && len(n.Test) == 0 {
			fmt.Fprint(&s, " ", x.Templates[n.T].Name, ";")
			continue
		}
		text, e := unary.Text(n.Test)
		if e != api.OK {
			t.Fatal(e, x.Alphas)
		}
		fmt.Fprintf(&s, " %d %s.%s: %s;", n.Parent, x.Templates[n.T].Name, x.Templates[n.T].Slots[n.Slot].Name, text)
	}
	return s.String()
}

// drawings are rules' conditions, and what is drawn of their plan.
func drawings() []struct {
	rules []string
	want  string
} {
	return []struct {
		rules []string
		want  string
	}{
		// The chapter's.
		{[]string{"a(x: 1) b()", "a(x: 1) not b()"}, "-1 0[1] 1[2] 1[2] ends [2 3] alphas a; 0 a.x: 1; b;"},
		{[]string{"a(x: ?n)", "a(x: ?m)"}, "-1 0[0] 0[0] ends [1 2] alphas a;"},
		// Nothing.
		{nil, "-1 ends [] alphas"},
		{[]string{""}, "-1 ends [0] alphas"},
		{[]string{"", ""}, "-1 ends [0 0] alphas"},
		{[]string{"", "a()", ""}, "-1 0[0] ends [0 1 0] alphas a;"},
		// Rules that begin alike, the one behind longer and shorter.
		{[]string{"a()", "a()"}, "-1 0[0] ends [1 1] alphas a;"},
		{[]string{"a() b()", "a()"}, "-1 0[0] 1[1] ends [2 1] alphas a; b;"},
		{[]string{"a()", "a() b()"}, "-1 0[0] 1[1] ends [1 2] alphas a; b;"},
		{[]string{"a() b() a(x: 1)", "a() b() a(x: 2)", "a() b()", "a() b() a(x: 1) b()"}, "-1 0[0] 1[1] 2[2] 2[3] 3[1] ends [3 4 2 5] alphas a; b; 0 a.x: 1; 0 a.x: 2;"},
		{[]string{"a() b()", "b() a()"}, "-1 0[0] 1[1] 0[1] 3[0] ends [2 4] alphas a; b;"},
		// Alike, but below another node, or below one twice.
		{[]string{"a() b()", "b() b()"}, "-1 0[0] 1[1] 0[1] 3[1] ends [2 4] alphas a; b;"},
		{[]string{"a() a()", "a()"}, "-1 0[0] 1[0] ends [2 1] alphas a;"},
		{[]string{"a() a() a()", "a() b() a()", "a() a()"}, "-1 0[0] 1[0] 2[0] 1[1] 4[0] ends [3 5 2] alphas a; b;"},
		{[]string{"test true test true", "test true"}, "-1 0 1 ends [2 1] alphas"},
		{[]string{"b() a()", "a() b()", "b() b()", "a() a()"}, "-1 0[0] 1[1] 0[1] 3[0] 1[0] 3[1] ends [2 4 5 6] alphas b; a;"},
		// Of one kind each.
		{[]string{"a()", "not a()", "exists a()", "not (a())", "test true"}, "-1 0[0] 0[0] 0[0] 0[0] 0 ends [1 2 3 4 5] alphas a;"},
		{[]string{"not (a())", "not (a() a())", "not (a() b())", "not (b() a())", "not (a() a())"}, "-1 0[0] 0[0 0] 0[0 1] 0[1 0] ends [1 2 3 4 2] alphas a; b;"},
		// Groups: patterns are looked for one by one, in their order.
		{[]string{"not (b(x: 1) a() b(x: 1) b())", "not (a(y: 2) b(x: 1, y: 1))"}, "-1 0[1 2 1 0] 0[3 4] ends [1 2] alphas b; 0 b.x: 1; a; 2 a.y: 2; 1 b.y: 1;"},
		// Tests of the fact alone, and others between them.
		{[]string{"a(x: -)", "a(x: ?n, y: 1)", "a(y: 1, x: > 2)", "a(x: ?n, y: > ?n)"}, "-1 0[1] 0[2] 0[3] 0[0] ends [1 2 3 4] alphas a; 0 a.x: -; 0 a.y: 1; 2 a.x: > 2;"},
		{[]string{"a(x: ?n) b(x: 1, y: ?n)", "a(x: ?n) b(x: > ?n, y: not(1))", "a(x: ?n) b(y: not(?n), x: not(1))"}, "-1 0[0] 1[2] 1[3] 1[4] ends [2 3 4] alphas a; b; 1 b.x: 1; 1 b.y: not(1); 1 b.x: not(1);"},
		// In another order: another node.
		{[]string{"a(x: 1, y: 2)", "a(y: 2, x: 1)", "a(x: 1, y: 2)"}, "-1 0[2] 0[4] ends [1 2 1] alphas a; 0 a.x: 1; 1 a.y: 2; 0 a.y: 2; 3 a.x: 1;"},
		// One test of two slots, of slots of two templates; two tests of one slot.
		{[]string{"a(x: 1)", "a(y: 1)", "b(x: 1)", "a(x: 2)", "a(x: 1, 1)"}, "-1 0[1] 0[2] 0[4] 0[5] 0[6] ends [1 2 3 4 5] alphas a; 0 a.x: 1; 0 a.y: 1; b; 3 b.x: 1; 0 a.x: 2; 0 a.x: 1, 1;"},
		{[]string{"b(x: 1, y: 1) a(y: 1)", "a(x: 2, y: 1)", "a(y: 1)"}, "-1 0[2] 1[4] 0[6] 0[4] ends [2 3 4] alphas b; 0 b.x: 1; 1 b.y: 1; a; 3 a.y: 1; 3 a.x: 2; 5 a.y: 1;"},
		// Nodes whose alpha nodes are the same are none that are the same.
		{[]string{"a(x: 1, y: ?n)", "a(x: 1, y: ?m)", "a(x: 1)", "f: a(x: 1)", "a(y: ?n, x: 1)"}, "-1 0[1] 0[1] 0[1] 0[1] ends [1 2 3 3 4] alphas a; 0 a.x: 1;"},
	}
}

// P19.1: plans of rules, and the same by the model.
func TestOf(t *testing.T) {
	for _, d := range drawings() {
		if got := drawn(t, hold(t, program(t, d.rules...))); got != d.want {
			t.Errorf("%q: %s, not %s", d.rules, got, d.want)
		}
	}
}

// alikeTexts are texts of conditions, by which are alike. (?n is bound ahead.)
func alikeTexts() [][]string {
	return [][]string{
		{"a()", "f: a()", "g : a ( )", "\n\n a\n(\n)"}, {"not a()", "not\na()"}, {"exists a()"}, {"not (a())", "not(a ( ))"}, {"not (a() a())"}, {"not (a() a() a())"}, {"b()"}, {"not b()"}, {"not (b() a())"}, {"not (a() b())"},
		{"a(x: 1)", "f: a(x: 1)", "a(x: = 1)", "a(x:((1)))", "a(x: ; a remark\n 1)"}, {"not a(x: 1)"}, {"exists a(x: 1)"}, {"not (a(x: 1))"},
		{"a(y: 1)"}, {"b(x: 1)"}, {"a(x: 2)"}, {"a(x: -1)", "a(x: - 1)"}, {"a(x: -)"}, {"a(x: 1, 1)"}, {"a(x: null)"}, {"a(x: ?)"}, {"a(x: < 1)"}, {"a(x: <= 1)"}, {"a(x: > 1)"}, {"a(x: >= 1)"},
		{"a(x: [1 .. 2])", "a( x : [ 1..2 ] )"}, {"a(x: (1 .. 2])"}, {"a(x: [1 .. 2))"}, {"a(x: (1 .. 2))"}, {"a(x: [2 .. 1])"}, {"a(x: not(1))"}, {"a(x: not(not(1)))"}, {"a(x: 1, 2)"}, {"a(x: 2, 1)"},
		{"a(x: ?n)", "a(x: = ?n)", "n: a(x: ?n)"}, {"a(x: ?m)"}, {"a(x: > ?n)"}, {"a(x: ?n, ?n)"}, {"a(x: ?n + 1)", "a(x: ((?n)+(1)))"}, {"a(x: 1 + ?n)"}, {"a(x: ?n - 1)"},
		{"a(x: 1, y: 1)", "f: a(x: 1,\n y: 1)"}, {"a(y: 1, x: 1)"}, {"a(x: 1, y: 2)"}, {"a(x: ?m, y: 1)"}, {"a(x: ?m, y: ?k)"}, {"a(x: ?m, y: ?m)"}, {"a(x: ?k, y: ?m)"},
		{"test ?n = 1", "test (?n) = 1", "test\n?n=1"}, {"test 1 = ?n"}, {"test ?n = 2"}, {"test ?n > 1"}, {"test true"}, {"test null"},
		{"not (a(x: 1) b(y: ?n))", "not(\na(x: (1))b(y: = ?n))"}, {"not (a(x: 1) b(y: > ?n))"}, {"not (b(y: ?n) a(x: 1))"}, {"not (a(x: ?n) b(y: ?n))"},
	}
}

// P19.1: conditions, each with each other one, below the same node.
func TestAlike(t *testing.T) {
	var texts []string
	var of []int
	for i, l := range alikeTexts() {
		for _, s := range l {
			texts, of = append(texts, s), append(of, i)
		}
	}
	for i, a := range texts {
		for k, b := range texts {
			x := hold(t, program(t, "b(x: ?n) "+a, "b(x: ?n) "+b))
			want := []int{2, 3}
			if of[i] == of[k] {
				want = []int{2, 2}
			}
			if !slices.Equal(x.Ends, want) {
				t.Errorf("%q and %q: %v", a, b, x.Ends)
			}
		}
	}
}

// P19.1: a node has the condition that was there first, with its places and the
// fact's name.
func TestConditionsStayWhole(t *testing.T) {
	p := program(t, "first: a(x: 1)", "second:\na(x: (1))")
	x := hold(t, p)
	if len(x.Nodes) != 2 || !reflect.DeepEqual(x.Nodes[1].Cond, p.Rules[0].Conds[0]) || x.Nodes[1].Cond.Patterns[0].Name != "first" {
		t.Errorf("%v", x.Nodes)
	}
	if !reflect.DeepEqual(x.Templates, p.Templates) || !reflect.DeepEqual(x.Alphas[1].Test, p.Rules[0].Conds[0].Patterns[0].Slots[0].Test) {
		t.Errorf("%v %v", x.Templates, x.Alphas)
	}
	if !reflect.DeepEqual(x.Nodes[0], api.PlanNode{Parent: -1}) {
		t.Errorf("%v", x.Nodes[0])
	}
}

// P19.1: as many rules and conditions as may be, all of them others, and all alike.
func TestManyRules(t *testing.T) {
	var others, same []string
	for i := range api.MaxRules {
		var l []string
		for k := range api.MaxConds {
			l = append(l, fmt.Sprintf("not a(x: %d, y: %d)", i, k))
		}
		others, same = append(others, strings.Join(l, " ")), append(same, "a(x: ?n) b(y: ?n) a(y: 1) b() not a() test ?n = 1")
	}
	x := hold(t, program(t, others...))
	if len(x.Nodes) != 1+32*6 || len(x.Alphas) != 1+32+32*6 || x.Ends[31] != 32*6 {
		t.Errorf("%d nodes, %d alphas, ends %v", len(x.Nodes), len(x.Alphas), x.Ends)
	}
	x = hold(t, program(t, same...))
	if len(x.Nodes) != 7 || len(x.Alphas) != 3 || slices.Max(x.Ends) != 6 || slices.Min(x.Ends) != 6 || len(x.Ends) != 32 {
		t.Errorf("%d nodes, %d alphas, ends %v", len(x.Nodes), len(x.Alphas), x.Ends)
	}
}

// P19.1: templates, alike but for their names, of as many slots as may be.
func TestManyTemplates(t *testing.T) {
	var s strings.Builder
	for i := range api.MaxTemplates {
		fmt.Fprintf(&s, "template t%d", i)
		for k := range api.MaxSlots {
			fmt.Fprintf(&s, " s%d:int", k)
		}
		s.WriteByte('\n')
	}
	for i := range api.MaxTemplates {
		fmt.Fprintf(&s, "rule r%d when t%d(s7: 1", i, 15-i)
		for k := range api.MaxSlots - 1 {
			fmt.Fprintf(&s, ", s%d: %d", 6-k, i%2)
		}
		s.WriteString(") then halt end\n")
	}
	p, _, e := rule.Parse(s.String())
	x := hold(t, p)
	if e != api.OK || len(x.Alphas) != 16*9 || x.Alphas[9].T != 14 || x.Alphas[10].T != 14 || x.Alphas[10].Slot != 7 || x.Alphas[17].Slot != 0 || x.Alphas[17].Parent != 16 {
		t.Errorf("%v %s", e, short(whole(x.Alphas)))
	}
}

// P19.1: ErrForm and no plan, if the program is not well-formed, whichever error
// layer 14 tells.
func TestNotWellFormed(t *testing.T) {
	errors := map[api.Errno]int{}
	for _, s := range []string{
		"template a x:int", "template b x:int x:str", "rule r1 when then halt end rule r1 when then halt end",
		"rule r when c() then end", "rule r when a(z: 1) then end", "rule r when a(x: 1, x: 1) then end", "rule r when a(x: ?n) b(x: ?n, x: ?n) then end",
		"template c z:str rule r when a(x: ?n) c(z: ?n) then end", `rule r when a(x: "u") then end`, "rule r when not a(x: ?n) a(y: > ?n) then end",
		"rule r when a() a() a() a() a() then end", "rule r when f: a() f: b() then end", "rule r when test 1 then end", "rule r when test ?n = 1 then end", "rule r when test ? = 1 then end",
		"rule r when then assert c() end", "rule r when then retract f end", "rule r when not a(x: ?n) then assert a(x: ?n) end", "rule r when then assert a(x: 1, x: 1) end", "rule r when then assert a(z: 1) end", "rule r when then assert a(x: true) end",
		"rule r when f: a() then modify g(x: 1) end",
	} {
		p, at, e := rule.Parse(templates + s)
		if e != api.OK {
			t.Fatal(at, e, s)
		}
		_, e = check.Check(p)
		errors[e]++
		for _, ahead := range []string{"", "rule q when a(x: 1) b() then halt end "} {
			if ahead != "" && strings.HasPrefix(s, "template") {
				continue
			}
			p, _, _ := rule.Parse(templates + ahead + s)
			if x, e := Of(p); e != api.ErrForm || !reflect.DeepEqual(x, api.Plan{}) {
				t.Errorf("%v, %s of %s", e, short(whole(x)), s)
			}
			hold(t, p)
		}
	}
	for _, e := range []api.Errno{api.ErrNone, api.ErrTwice, api.ErrKind, api.ErrScope, api.ErrMany} {
		if errors[e] == 0 {
			t.Errorf("none of %v: %v", e, errors)
		}
	}
	for _, p := range []api.Program{
		{Rules: []api.Rule{{}}}, {Templates: []api.Template{{}}}, {Rules: []api.Rule{{Name: "r", Conds: []api.Cond{{}}}}}, {Rules: []api.Rule{{Name: "r", Salience: 101}}}, {Rules: slices.Repeat([]api.Rule{{Name: "r"}}, 1000)},
		{Rules: []api.Rule{{Name: "r", Conds: []api.Cond{{Kind: api.CondIs}}}}}, {Rules: []api.Rule{{Name: "r", Conds: []api.Cond{{Kind: api.CondIs, Patterns: []api.Pattern{{T: "a"}}}}}}},
	} {
		if x, e := Of(p); e != api.ErrForm || !reflect.DeepEqual(x, api.Plan{}) {
			t.Errorf("%v, %s of %s", e, short(whole(x)), short(whole(p)))
		}
		hold(t, p)
	}
	hold(t, api.Program{})
	hold(t, api.Program{Rules: []api.Rule{{Name: "r"}}})
	hold(t, api.Program{Templates: []api.Template{{Name: "a", Slots: []api.Slot{{Name: "x", Kind: api.Int}}}}, At: []api.Place{}, Rules: []api.Rule{}})
}

// P19.1: each part of a program changed alone, the rules being alike ahead of it.
func TestEachPart(t *testing.T) {
	conds := "f: a(x: ?n, y: not(1, [2 .. 3))) not (b(x: 1) a(x: ?m, y: > 2)) exists b(y: ?n + 1) test ?n = max(1, 2)"
	p := program(t, conds, conds)
	fit, not, shared := 0, 0, 0
	for i, v := range partsOf(&p) {
		for k := range changes(v) {
			c := copyOf(p)
			changes(partsOf(&c)[i])[k]()
			x := hold(t, c)
			switch len(x.Nodes) {
			case 0:
				not++
			case 5:
				shared++
				fit++
			default:
				fit++
			}
		}
	}
	if fit < 300 || fit-shared < 100 || not < 300 {
		t.Errorf("%d well-formed, %d shared, %d not", fit, shared, not)
	}
}

// P1: all lists of a plan are in memory of their own, whichever are written over.
func TestPlansOwnMemory(t *testing.T) {
	conds := "f: a(x: ?n, y: not(1, [2 .. 3))) not (b(x: 1) a(x: ?m, y: > 2)) exists b(y: ?n + 1) test ?n = max(1, 2)"
	p := room(program(t, conds, "a(x: 1)", conds+" b()", "not b(x: - 1)"))
	before := whole(p)
	x, _ := Of(p)
	y, _ := Of(p)
	first := whole(copyOf(x))
	if !areApart(slices.Concat(spans(p), spans(x), spans(y))) {
		t.Error("memory is shared")
	}
	spoil(reflect.ValueOf(x))
	if after := whole(p); after != before {
		t.Errorf("the program was %s, and is %s", short(before), short(after))
	}
	if now := whole(copyOf(y)); now != first {
		t.Errorf("the other plan was %s, and is %s", short(first), short(now))
	}
	if z, _ := Of(p); whole(copyOf(z)) != first {
		t.Errorf("asked again it was %s, and is %s", short(first), short(whole(z)))
	}
	spoil(reflect.ValueOf(p))
	if now := whole(copyOf(y)); now != first {
		t.Errorf("the plan was %s, and is %s", short(first), short(now))
	}
}

// P19.2: of a plan, and of numbers that are no node's.
func TestBelowAndPath(t *testing.T) {
	x := hold(t, program(t, "a() b() a(x: 1)", "a() b() a(x: 2)", "b()", "a() a()"))
	for n, want := range map[int]string{
		-1 << 63: "[] []", -2: "[] []", -1: "[0] []", 0: "[1 5] []", 1: "[2 6] [1]", 2: "[3 4] [1 2]", 3: "[] [1 2 3]", 4: "[] [1 2 4]", 5: "[] [5]", 6: "[] [1 6]", 7: "[] []", 1 << 62: "[] []",
	} {
		if got := fmt.Sprint(Below(x, n), Path(x, n)); got != want {
			t.Errorf("%d: %s, not %s", n, got, want)
		}
	}
	// What is told is in memory of its own.
	for n := range x.Nodes {
		for _, ask := range []func(p api.Plan, n int) []int{Below, Path} {
			l := ask(x, n)
			if !areApart(slices.Concat(spans(x), spans(l))) {
				t.Error("memory is shared", n)
			}
			want := fmt.Sprint(l)
			spoil(reflect.ValueOf(l))
			if got := fmt.Sprint(ask(x, n)); got != want {
				t.Errorf("%d: %s, not %s", n, got, want)
			}
		}
	}
}

// P19.2: plans that Of does not make.
func TestBelowAndPathOfOtherPlans(t *testing.T) {
	of := func(parents ...int) api.Plan {
		var x api.Plan
		for _, p := range parents {
			x.Nodes = append(x.Nodes, api.PlanNode{Parent: p})
		}
		return x
	}
	for _, c := range []struct {
		x    api.Plan
		n    int
		want string
	}{
		{of(), 0, "[] []"}, {of(), -1, "[] []"}, {of(), 1, "[] []"}, {api.Plan{Ends: []int{3}}, 3, "[] []"},
		{of(0), 0, "[0] []"}, {of(5), 0, "[] []"}, {of(5), 5, "[0] []"},
		// A Parent that is the node itself, one behind it, far above, below 0.
		{of(-1, 1), 1, "[1] [1]"}, {of(-1, 2, 1), 1, "[2] [1]"}, {of(-1, 2, 1), 2, "[1] [1 2]"}, {of(-1, 1<<62), 1, "[] [1]"}, {of(-1, 1<<62), 1 << 62, "[1] []"},
		{of(-1, -1), 1, "[] [1]"}, {of(-1, -1), -1, "[0 1] []"}, {of(-1, -5, 1), 2, "[] [1 2]"}, {of(-1, -5, 1), -5, "[1] []"}, {of(-1, -1<<63), 1, "[] [1]"},
		{of(-1, 0, 2, 2), 3, "[] [2 3]"}, {of(-1, 3, 1, 2), 3, "[1] [1 2 3]"}, {of(-1, 0, 1, 4, 3), 4, "[3] [3 4]"}, {of(2, 0, 0), 2, "[0] [2]"}, {of(2, 0, 0), 0, "[1 2] []"},
	} {
		if got := fmt.Sprint(Below(c.x, c.n), Path(c.x, c.n)); got != c.want {
			t.Errorf("%d of %v: %s, not %s", c.n, c.x.Nodes, got, c.want)
		}
		holdBelow(t, c.x)
	}
	// One that is very long.
	long := of(-1)
	for i := range 1 << 17 {
		long.Nodes = append(long.Nodes, api.PlanNode{Parent: i})
	}
	if l := Path(long, 1<<17); len(l) != 1<<17 || l[0] != 1 || l[1<<17-1] != 1<<17 {
		t.Error(len(l))
	}
}
