package rprint

import (
	"fmt"
	"slices"
	"strings"
	"testing"
	"time"

	"witan/api"
	"witan/expr"
	"witan/unary"
)

// one tells a program of one rule, of those conditions and actions.
func one(conds []api.Cond, acts ...api.Action) api.Program {
	return api.Program{Rules: []api.Rule{{Name: "r", Conds: conds, Acts: acts}}}
}

// conds tells conditions as a list.
func conds(l ...api.Cond) []api.Cond { return l }

// patterns tells n patterns, as a text would have them.
func patterns(n int) []api.Pattern {
	l := make([]api.Pattern, n)
	for i := range l {
		l[i].T = "a"
	}
	return l
}

func exprOf(t *testing.T, s string) api.Expr {
	t.Helper()
	x, _, e := expr.Read(s)
	if e != api.OK {
		t.Fatalf("expr.Read(%.300q): %d", s, e)
	}
	return x
}

func testsOf(t *testing.T, s string) api.Tests {
	t.Helper()
	x, _, e := unary.Read(s)
	if e != api.OK {
		t.Fatalf("unary.Read(%.300q): %d", s, e)
	}
	return x
}

// isIt asks that p has that text if it may be, and none else.
func isIt(t *testing.T, p api.Program, may bool, want, what string) {
	t.Helper()
	if may {
		has(t, p, want)
	} else {
		hasNone(t, p, what)
	}
}

// P13.1: names, at each place where one stands, that layer 4 takes and such
// that it does not take.
func TestNames(t *testing.T) {
	names := []string{"a", "z", "a1", "x9y", "abcdefghijkl", "a23456789012", "int", "dec", "str", "bool", "sym", "rules", "ends", "nots", "thens", "ins", "self", "program",
		"", "A", "aB", "1", "1a", "_", "a_", "a-b", "-", "?", "?a", "#a", "\"a\"", "abcdefghijklm", " ", " a", "a ", "a b", "a\n", "\na", "a;", "a:", "a: b", "a(", "a()", "a(x: 1)", "(", ")", ",", "a\x00", "\xff", "é", "a\r", "a\t", "a ; b", "a end", strings.Repeat("a", 1000)}
	names = append(names, kept...)
	places := []struct {
		made func(name string) api.Program
		text string // with % where the name is told
	}{
		{func(s string) api.Program {
			return api.Program{Templates: []api.Template{{Name: s, Slots: []api.Slot{{Name: "x", Kind: api.Int}}}}}
		}, "template % x:int\n"},
		{func(s string) api.Program {
			return api.Program{Templates: []api.Template{{Name: "a", Slots: []api.Slot{{Name: s, Kind: api.Sym}}}}}
		}, "template a %:sym\n"},
		{func(s string) api.Program {
			return api.Program{Templates: []api.Template{{Name: "a", Slots: []api.Slot{{Name: "x", Kind: api.Int}, {Name: s, Kind: api.Int}, {Name: s, Kind: api.Bool}}}}}
		}, "template a x:int %:int %:bool\n"},
		{func(s string) api.Program { return api.Program{Rules: []api.Rule{{Name: s}}} }, "rule %\nwhen\nthen\nend\n"},
		{func(s string) api.Program { return api.Program{Rules: []api.Rule{{Name: s, Salience: -5}}} }, "rule % -5\nwhen\nthen\nend\n"},
		{func(s string) api.Program {
			return one(conds(api.Cond{Kind: api.CondIs, Patterns: []api.Pattern{{T: s}}}))
		}, "rule r\nwhen\n  %()\nthen\nend\n"},
		{func(s string) api.Program {
			return one(conds(api.Cond{Kind: api.CondIs, Patterns: []api.Pattern{{Name: "p", T: s}}}))
		}, "rule r\nwhen\n  p: %()\nthen\nend\n"},
		{func(s string) api.Program {
			return one(conds(api.Cond{Kind: api.CondNot, Patterns: []api.Pattern{{T: s}}}, api.Cond{Kind: api.CondExists, Patterns: []api.Pattern{{T: s}}}))
		}, "rule r\nwhen\n  not %()\n  exists %()\nthen\nend\n"},
		{func(s string) api.Program {
			return one(conds(api.Cond{Kind: api.CondNone, Patterns: []api.Pattern{{T: "a"}, {T: s}}}))
		}, "rule r\nwhen\n  not (a() %())\nthen\nend\n"},
		{func(s string) api.Program {
			return one(conds(api.Cond{Kind: api.CondIs, Patterns: []api.Pattern{{T: "a", Slots: []api.SlotTest{{Slot: s, Test: testsOf(t, "1")}}}}}))
		}, "rule r\nwhen\n  a(%: 1)\nthen\nend\n"},
		{func(s string) api.Program {
			return one(conds(api.Cond{Kind: api.CondNot, Patterns: []api.Pattern{{T: "a", Slots: []api.SlotTest{{Slot: "x", Test: testsOf(t, "1, -")}, {Slot: s, Test: testsOf(t, "2")}}}}}))
		}, "rule r\nwhen\n  not a(x: 1, -, %: 2)\nthen\nend\n"},
		{func(s string) api.Program { return one(nil, api.Action{Kind: api.ActAssert, Name: s}) }, "rule r\nwhen\nthen\n  assert %()\nend\n"},
		{func(s string) api.Program { return one(nil, api.Action{Kind: api.ActLogical, Name: s}) }, "rule r\nwhen\nthen\n  logical %()\nend\n"},
		{func(s string) api.Program { return one(nil, api.Action{Kind: api.ActModify, Name: s}) }, "rule r\nwhen\nthen\n  modify %()\nend\n"},
		{func(s string) api.Program { return one(nil, api.Action{Kind: api.ActRetract, Name: s}) }, "rule r\nwhen\nthen\n  retract %\nend\n"},
		{func(s string) api.Program {
			return one(nil, api.Action{Kind: api.ActLogical, Name: "a", Sets: []api.Set{{Slot: s, E: exprOf(t, "1")}, {Slot: s, E: exprOf(t, "?n")}}})
		}, "rule r\nwhen\nthen\n  logical a(%: 1, %: ?n)\nend\n"},
	}
	for _, s := range names {
		may := formOfNames.MatchString(s) && !slices.Contains(kept, s)
		for _, x := range places {
			want := strings.ReplaceAll(x.text, "%", s)
			isIt(t, x.made(s), may, want, want)
		}
		// A fact's name that is empty is none.
		ahead := "\n  " + s + ": a()"
		if s == "" {
			ahead = "\n  a()"
		}
		isIt(t, one(conds(api.Cond{Kind: api.CondIs, Patterns: []api.Pattern{{Name: s, T: "a"}}})), may || s == "", "rule r\nwhen"+ahead+"\nthen\nend\n", "a fact's name "+s)
	}
}

// P13.1: programs whose names are such that their texts would be read, as
// other programs.
func TestNamesThatAreReadAsMore(t *testing.T) {
	slot := []api.Slot{{Name: "x", Kind: api.Int}}
	for what, p := range map[string]api.Program{
		"a slot in a template's name": {Templates: []api.Template{{Name: "a y:int", Slots: slot}}},
		"a slot in a slot's name":     {Templates: []api.Template{{Name: "a", Slots: []api.Slot{{Name: "y:int x", Kind: api.Int}}}}},
		"a template in a slot's name": {Templates: []api.Template{{Name: "a", Slots: []api.Slot{{Name: "y:int template b x", Kind: api.Int}}}}},
		"a salience in a rule's name": {Rules: []api.Rule{{Name: "r 5"}}},
		"a whole rule in a name":      {Rules: []api.Rule{{Name: "r when then end rule r"}}},
		"a remark in a name":          {Rules: []api.Rule{{Name: "r ; when"}}},
		"a blank ahead of a name":     {Rules: []api.Rule{{Name: " r"}}},
		"a fact's name in another":    one(conds(api.Cond{Kind: api.CondIs, Patterns: []api.Pattern{{T: "p: a"}}})),
		"a pattern in a fact's name":  one(conds(api.Cond{Kind: api.CondIs, Patterns: []api.Pattern{{Name: "a() p", T: "a"}}})),
		"not in a fact's name":        one(conds(api.Cond{Kind: api.CondIs, Patterns: []api.Pattern{{Name: "not a() p", T: "a"}}})),
		"not in a template's name":    one(conds(api.Cond{Kind: api.CondIs, Patterns: []api.Pattern{{T: "not a"}}})),
		"exists in a template's name": one(conds(api.Cond{Kind: api.CondIs, Patterns: []api.Pattern{{T: "exists a"}}})),
		"a group in a template's":     one(conds(api.Cond{Kind: api.CondNone, Patterns: []api.Pattern{{T: "a() b"}}})),
		"a slot in a slot's":          one(conds(api.Cond{Kind: api.CondIs, Patterns: []api.Pattern{{T: "a", Slots: []api.SlotTest{{Slot: "x: 1, y", Test: testsOf(t, "1")}}}}})),
		"a set in a set's":            one(nil, api.Action{Kind: api.ActAssert, Name: "a", Sets: []api.Set{{Slot: "x: 1, y", E: exprOf(t, "1")}}}),
		"an action in a name":         one(nil, api.Action{Kind: api.ActRetract, Name: "p halt"}),
		"an action in a template's":   one(nil, api.Action{Kind: api.ActAssert, Name: "a() logical a"}),
		"sets in retract's name":      one(nil, api.Action{Kind: api.ActRetract, Name: "a assert a(x: 1)"}),
		"an end in a name":            one(nil, api.Action{Kind: api.ActRetract, Name: "p end rule s when then retract p"}),
	} {
		hasNone(t, p, what)
	}
}

// P13.1: kinds of slots, conditions and actions, of which few are any.
func TestKinds(t *testing.T) {
	kinds := []string{1: "int", "dec", "str", "bool", "sym"}
	words := []string{1: "assert a()", "logical a()", "modify a()", "retract a", "halt"}
	for k := range 256 {
		may, kind := 1 <= k && k <= 5, uint8(k)
		want := func(l []string) string { return l[min(k, 5)] }
		for _, slots := range [][]api.Slot{{{Name: "x", Kind: kind}}, {{Name: "w", Kind: api.Int}, {Name: "x", Kind: kind}}, {{Name: "x", Kind: kind}, {Name: "int", Kind: api.Int}}} {
			s := "template a"
			for _, x := range slots {
				s += " " + x.Name + ":" + want(append(kinds[:1:1], slices.Repeat([]string{kinds[min(x.Kind, 5)]}, 5)...))
			}
			isIt(t, api.Program{Templates: []api.Template{{Name: "a", Slots: slots}}}, may, s+"\n", fmt.Sprint("a slot's kind ", k))
		}
		a := api.Action{Kind: kind, Name: "a"}
		if k == 5 {
			a.Name = ""
		}
		isIt(t, one(nil, a), may, text("rule r", "when", "then", "  "+want(words), "end"), fmt.Sprint("an action's kind ", k))
		c := api.Cond{Kind: kind, Patterns: patterns(1)}
		if k == 5 {
			c = api.Cond{Kind: kind, Test: exprOf(t, "?n")}
		}
		isIt(t, one(conds(c)), may, text("rule r", "when", "  "+want([]string{1: "a()", "not a()", "exists a()", "not (a())", "test ?n"}), "then", "end"), fmt.Sprint("a condition's kind ", k))
		if !may {
			hasNone(t, one(nil, api.Action{Kind: kind}), fmt.Sprint("an action of nothing, of kind ", k))
			hasNone(t, one(conds(api.Cond{Kind: kind})), fmt.Sprint("a condition of nothing, of kind ", k))
			hasNone(t, one(conds(api.Cond{Kind: kind, Test: exprOf(t, "?n")})), fmt.Sprint("a test, of kind ", k))
		}
	}
}

// P13.1: parts that a kind does not have.
func TestPartsOfOtherKinds(t *testing.T) {
	x := exprOf(t, "?n")
	named := func(n, of int) []api.Pattern {
		l := patterns(of)
		l[n].Name = "p"
		return l
	}
	for _, k := range []uint8{api.CondIs, api.CondNot, api.CondExists, api.CondNone} {
		hasNone(t, one(conds(api.Cond{Kind: k, Patterns: patterns(1), Test: x})), fmt.Sprint("a test beside patterns, kind ", k))
		hasNone(t, one(conds(api.Cond{Kind: k, Patterns: patterns(1), Test: api.Expr{{}}})), fmt.Sprint("a test that is none beside patterns, kind ", k))
		hasNone(t, one(conds(api.Cond{Kind: k})), fmt.Sprint("no patterns, kind ", k))
		hasNone(t, one(conds(api.Cond{Kind: k, Patterns: make([]api.Pattern, 1)})), fmt.Sprint("an empty pattern, kind ", k))
		hasNone(t, one(conds(api.Cond{Kind: k, Test: x})), fmt.Sprint("a test alone, kind ", k))
		// A list that is not there and an empty one are one.
		has(t, one(conds(api.Cond{Kind: k, Patterns: []api.Pattern{{T: "a", Slots: []api.SlotTest{}}}, Test: api.Expr{}})), "rule r\nwhen\n  "+[]string{"", "a()", "not a()", "exists a()", "not (a())"}[k]+"\nthen\nend\n")
	}
	for _, k := range []uint8{api.CondIs, api.CondNot, api.CondExists, api.CondTest} {
		for _, n := range []int{2, 3, 5} {
			hasNone(t, one(conds(api.Cond{Kind: k, Patterns: patterns(n)})), fmt.Sprint(n, " patterns, kind ", k))
		}
	}
	for _, l := range [][]api.Pattern{patterns(1), patterns(2), make([]api.Pattern, 1), named(0, 1)} {
		hasNone(t, one(conds(api.Cond{Kind: api.CondTest, Patterns: l, Test: x})), "patterns beside a test")
	}
	has(t, one(conds(api.Cond{Kind: api.CondTest, Patterns: []api.Pattern{}, Test: x})), "rule r\nwhen\n  test ?n\nthen\nend\n")
	hasNone(t, one(conds(api.Cond{Kind: api.CondTest})), "a test of nothing")

	has(t, one(conds(api.Cond{Kind: api.CondIs, Patterns: named(0, 1)})), "rule r\nwhen\n  p: a()\nthen\nend\n")
	hasNone(t, one(conds(api.Cond{Kind: api.CondNot, Patterns: named(0, 1)})), "a fact's name behind not")
	hasNone(t, one(conds(api.Cond{Kind: api.CondExists, Patterns: named(0, 1)})), "a fact's name behind exists")
	for of := 1; of <= 4; of++ {
		for n := range of {
			hasNone(t, one(conds(api.Cond{Kind: api.CondNone, Patterns: named(n, of)})), "a fact's name inside a group")
		}
	}

	sets := []api.Set{{Slot: "x", E: x}}
	hasNone(t, one(nil, api.Action{Kind: api.ActRetract, Name: "p", Sets: sets}), "sets of retract")
	hasNone(t, one(nil, api.Action{Kind: api.ActRetract, Name: "p", Sets: make([]api.Set, 1)}), "empty sets of retract")
	hasNone(t, one(nil, api.Action{Kind: api.ActHalt, Sets: sets}), "sets of halt")
	hasNone(t, one(nil, api.Action{Kind: api.ActHalt, Sets: make([]api.Set, 1)}), "empty sets of halt")
	hasNone(t, one(nil, api.Action{Kind: api.ActHalt, Name: "p"}), "a name of halt")
	has(t, one(nil, api.Action{Kind: api.ActHalt, Sets: []api.Set{}}, api.Action{Kind: api.ActRetract, Name: "p", Sets: []api.Set{}}), "rule r\nwhen\nthen\n  halt\n  retract p\nend\n")
	for _, k := range []uint8{api.ActAssert, api.ActLogical, api.ActModify, api.ActRetract} {
		hasNone(t, one(nil, api.Action{Kind: k}), fmt.Sprint("no name, kind ", k))
	}
	for _, k := range []uint8{api.ActAssert, api.ActLogical, api.ActModify} {
		hasNone(t, one(nil, api.Action{Kind: k, Sets: sets}), fmt.Sprint("sets and no name, kind ", k))
		hasNone(t, one(nil, api.Action{Kind: k, Name: "a", Sets: make([]api.Set, 1)}), fmt.Sprint("an empty set, kind ", k))
		hasNone(t, one(nil, api.Action{Kind: k, Name: "a", Sets: []api.Set{{Slot: "x"}}}), fmt.Sprint("a set of no expression, kind ", k))
	}
}

// inAll tells programs in which an expression stands, at each place where one
// may, as a text would have it there.
func inAll(x api.Expr) []api.Program {
	l := []api.Program{one(conds(api.Cond{Kind: api.CondTest, Test: x}))}
	for _, k := range []uint8{api.ActAssert, api.ActLogical, api.ActModify} {
		l = append(l, one(nil, api.Action{Kind: k, Name: "a", Sets: []api.Set{{Slot: "w", E: api.Expr{{Op: api.OpSelf}}}, {Slot: "x", E: x}}}))
	}
	for op := api.TestEq; op <= api.TestGe; op++ {
		l = append(l, inPattern(api.Tests{{Op: op, A: x}})...)
	}
	l = append(l, inPattern(api.Tests{{Op: api.TestIn, A: x, B: x, Low: true}})...)
	return append(l, inPattern(api.Tests{{Op: api.TestIn, A: api.Expr{{Op: api.OpSelf}}, B: x}, {Op: api.TestNot, Kids: []int{0}}})...)
}

// inPattern tells programs in which tests stand, likewise.
func inPattern(x api.Tests) []api.Program {
	var l []api.Program
	dash := api.Tests{{Op: api.TestAny}}
	for _, k := range []uint8{api.CondIs, api.CondNot, api.CondExists, api.CondNone} {
		l = append(l, one(conds(api.Cond{Kind: k, Patterns: []api.Pattern{{T: "a", Slots: []api.SlotTest{{Slot: "w", Test: dash}, {Slot: "x", Test: x}, {Slot: "y", Test: dash}}}}})))
	}
	return l
}

// P13.1: expressions that may not be, or that are deeper or greater than there
// may be, at each place where one stands.
func TestExpressions(t *testing.T) {
	lit := func(v api.Value) api.Expr { return api.Expr{{Op: api.OpLit, V: v}} }
	deep := func(n int, open string) api.Expr { return exprOf(t, strings.Repeat(open, n)+"1") }
	minus := func(n int) api.Expr { // 1 - (1 - (.. 1)), of n parentheses
		x := exprOf(t, strings.Repeat("1 - (", 12)+"1 - 1"+strings.Repeat(")", 12))
		if n < 12 {
			return exprOf(t, strings.Repeat("1 - (", n)+"1 - 1"+strings.Repeat(")", n))
		}
		for range n - 12 {
			for i := range x {
				for j := range x[i].Kids {
					x[i].Kids[j]++
				}
			}
			x = slices.Insert(x, 0, lit(api.Value{Kind: api.Int, N: 1})[0])
			x = append(x, api.Node{Op: api.OpSub, Kids: []int{0, len(x) - 1}})
		}
		return x
	}
	negated := func(x api.Expr, n int) api.Expr {
		for range n {
			x = append(slices.Clip(x), api.Node{Op: api.OpNeg, Kids: []int{len(x) - 1}})
		}
		return x
	}
	sum := func(n int) api.Expr { // of n numbers
		x := lit(api.Value{Kind: api.Int, N: 1})
		for range n - 1 {
			x = append(x, lit(api.Value{Kind: api.Int, N: 1})[0], api.Node{Op: api.OpAdd, Kids: []int{len(x) - 1, len(x)}})
		}
		return x
	}
	call := func(op uint8, n int) api.Expr {
		var x api.Expr
		k := api.Node{Op: op}
		for i := range n {
			x = append(x, lit(api.Value{Kind: api.Int, N: 1})[0])
			k.Kids = append(k.Kids, i)
		}
		return append(x, k)
	}
	for _, c := range []struct {
		x   api.Expr
		may bool
	}{
		{exprOf(t, "?n"), true}, {exprOf(t, "not (?n and true)"), true}, {exprOf(t, "-1"), true}, {exprOf(t, "(1 + 2) * 3"), true},
		{nil, false}, {api.Expr{}, false}, {api.Expr{{}}, false}, {api.Expr{{Op: 27}}, false}, {api.Expr{{Op: 255}}, false},
		{lit(api.Value{Kind: api.Int, N: -1}), false}, {lit(api.Value{Kind: api.Int, N: 1}), true}, {lit(api.Value{Kind: api.Dec, N: -10000}), false}, {lit(api.Value{Kind: api.Dec, N: 10000}), true}, {lit(api.Value{Kind: 6}), false}, {lit(api.Value{Kind: api.Bool, N: 2}), false},
		{lit(api.Value{Kind: api.Str, S: strings.Repeat("a", 200)}), true}, {lit(api.Value{Kind: api.Str, S: strings.Repeat("a", 201)}), false}, {lit(api.Value{Kind: api.Str, S: "\n"}), false}, {lit(api.Value{Kind: api.Sym, S: "A"}), false}, {lit(api.Value{Kind: api.Sym, S: "rule"}), true},
		{api.Expr{{Op: api.OpVar}}, false}, {api.Expr{{Op: api.OpVar, Name: "A"}}, false}, {api.Expr{{Op: api.OpVar, Name: "a, y: ?b"}}, false}, {api.Expr{{Op: api.OpVar, Name: "end"}}, true}, {api.Expr{{Op: api.OpSelf, Name: "a"}}, false}, {api.Expr{{Op: api.OpSelf, Kids: []int{0}}}, false},
		{api.Expr{{Op: api.OpSelf}, {Op: api.OpSelf}}, false}, {api.Expr{{Op: api.OpSelf}, {Op: api.OpNot, Kids: []int{-1}}}, false}, {api.Expr{{Op: api.OpNot, Kids: []int{0}}}, false}, {api.Expr{{Op: api.OpSelf}, {Op: api.OpNot, Kids: []int{1}}}, false}, {api.Expr{{Op: api.OpSelf}, {Op: api.OpNot, Kids: []int{0}, Name: "a"}}, false},
		{call(api.OpMin, 0), false}, {call(api.OpMin, 1), true}, {call(api.OpMin, 8), true}, {call(api.OpMin, 9), false}, {call(api.OpMod, 1), false}, {call(api.OpMod, 2), true}, {call(api.OpMod, 3), false}, {call(api.OpIf, 3), true}, {call(api.OpIf, 2), false}, {call(api.OpAdd, 2), true}, {call(api.OpAdd, 3), false},
		{deep(12, "-"), true}, {deep(12, "not "), true}, {negated(deep(12, "-"), 1), false}, {negated(deep(12, "-"), 20), false}, {minus(11), true}, {minus(12), true}, {minus(13), false}, {minus(20), false},
		{sum(30), true}, {sum(31), false}, {negated(sum(30), 1), true}, {negated(sum(30), 2), false}, {sum(1000), false},
	} {
		for i, p := range inAll(c.x) {
			if fault := holdModel(t, p); (fault == "") != c.may {
				t.Errorf("place %d of %.300v: %q", i, c.x, fault)
			}
		}
	}
}

// P13.1: tests that may not be, or that are deeper or greater than there may
// be, at each place where some stand.
func TestTests(t *testing.T) {
	self := exprOf(t, "?")
	not := func(x api.Tests, n int) api.Tests {
		for range n {
			x = append(slices.Clip(x), api.Test{Op: api.TestNot, Kids: []int{len(x) - 1}})
		}
		return x
	}
	list := func(n int) api.Tests {
		var x api.Tests
		all := api.Test{Op: api.TestList}
		for i := range n {
			x = append(x, api.Test{Op: api.TestGt, A: self})
			all.Kids = append(all.Kids, i)
		}
		return append(x, all)
	}
	of := func(l ...api.Test) api.Tests { return l }
	for _, c := range []struct {
		x   api.Tests
		may bool
	}{
		{nil, false}, {of(), false}, {of(api.Test{}), false}, {of(api.Test{Op: 10}), false}, {of(api.Test{Op: 255, A: self}), false}, {of(api.Test{Op: api.TestAny}), true}, {of(api.Test{Op: api.TestAny, A: self}), false}, {of(api.Test{Op: api.TestAny, Low: true}), false}, {of(api.Test{Op: api.TestAny}, api.Test{Op: api.TestAny}), false},
		{of(api.Test{Op: api.TestEq}), false}, {of(api.Test{Op: api.TestEq, A: self, B: self}), false}, {of(api.Test{Op: api.TestEq, A: self, High: true}), false}, {of(api.Test{Op: api.TestGt, A: self, Kids: []int{0}}), false}, {of(api.Test{Op: api.TestIn, A: self}), false}, {of(api.Test{Op: api.TestIn, B: self}), false}, {of(api.Test{Op: api.TestIn, A: self, B: self, Low: true, High: true}), true},
		{not(of(api.Test{Op: api.TestAny}), 4), true}, {not(of(api.Test{Op: api.TestAny}), 5), false}, {not(list(2), 1), true}, {not(list(2), 4), true}, {not(list(2), 5), false}, {not(nil, 1), false},
		{list(0), false}, {list(1), false}, {list(2), true}, {list(29), true}, {list(30), false}, {not(list(28), 1), true}, {not(list(29), 1), false}, {list(1000), false},
		{of(api.Test{Op: api.TestAny}, api.Test{Op: api.TestAny}, api.Test{Op: api.TestList, Kids: []int{1, 0}}), false}, {of(api.Test{Op: api.TestAny}, api.Test{Op: api.TestAny}, api.Test{Op: api.TestList, Kids: []int{0, 0}}), false}, {of(api.Test{Op: api.TestAny}, api.Test{Op: api.TestNot, Kids: []int{1}}), false},
		{append(list(2), api.Test{Op: api.TestAny}, api.Test{Op: api.TestList, Kids: []int{2, 3}}), false},
	} {
		for i, p := range inPattern(c.x) {
			if fault := holdModel(t, p); (fault == "") != c.may {
				t.Errorf("place %d of %.300v: %q", i, c.x, fault)
			}
		}
	}
}

// P13.1: as many of each list as there may be, and one more.
func TestBounds(t *testing.T) {
	made := func(n int, name string) api.Program { // a program with n of one list's parts
		var p api.Program
		dash, x := api.Tests{{Op: api.TestAny}}, exprOf(t, "1")
		switch name {
		case "templates":
			for range n {
				p.Templates = append(p.Templates, api.Template{Name: "a", Slots: []api.Slot{{Name: "x", Kind: api.Int}}})
			}
		case "slots":
			p.Templates = []api.Template{{Name: "a"}}
			for range n {
				p.Templates[0].Slots = append(p.Templates[0].Slots, api.Slot{Name: "x", Kind: api.Int})
			}
		case "rules":
			for range n {
				p.Rules = append(p.Rules, api.Rule{Name: "r"})
			}
		case "conditions":
			p = one(slices.Repeat(conds(api.Cond{Kind: api.CondIs, Patterns: patterns(1)}), n))
		case "tests":
			p = one(slices.Repeat(conds(api.Cond{Kind: api.CondTest, Test: x}), n))
		case "group":
			p = one(conds(api.Cond{Kind: api.CondNone, Patterns: patterns(n)}))
		case "actions":
			p = one(nil, slices.Repeat([]api.Action{{Kind: api.ActHalt}}, n)...)
		case "slots' tests":
			p = one(conds(api.Cond{Kind: api.CondIs, Patterns: []api.Pattern{{T: "a", Slots: slices.Repeat([]api.SlotTest{{Slot: "x", Test: dash}}, n)}}}))
		case "sets":
			p = one(nil, api.Action{Kind: api.ActModify, Name: "a", Sets: slices.Repeat([]api.Set{{Slot: "x", E: x}}, n)})
		}
		return p
	}
	for name, may := range map[string][2]int{"templates": {0, 16}, "slots": {1, 8}, "rules": {0, 32}, "conditions": {0, 6}, "tests": {0, 6}, "group": {1, 4}, "actions": {0, 8}, "slots' tests": {0, 8}, "sets": {0, 8}} {
		for n := range 70 {
			if fault := holdModel(t, made(n, name)); (fault == "") != (may[0] <= n && n <= may[1]) {
				t.Errorf("%d %s: %q", n, name, fault)
			}
		}
		hasNone(t, made(1000, name), "1000 "+name)
	}
	// All lists at once.
	p := made(16, "templates")
	for i := range p.Templates {
		p.Templates[i] = made(8, "slots").Templates[0]
	}
	for range 32 {
		r := made(8, "actions").Rules[0]
		r.Conds = made(6, "conditions").Rules[0].Conds
		p.Rules = append(p.Rules, r)
	}
	if fault := holdModel(t, p); fault != "" {
		t.Error(fault)
	}
}

// sized is a program whose text has so many bytes, 3500 or more: of rules with
// six tests of texts each, the first ones of which are as long as they may be.
func sized(n int) api.Program {
	p := api.Program{Rules: make([]api.Rule, 27)}
	n -= len("rule r\nwhen\nthen\nend\n") * 27
	for i := range p.Rules {
		p.Rules[i].Name = "r"
		for range 6 {
			n -= len("  test \"\" = \"\"\n")
			x := api.Expr{{Op: api.OpLit}, {Op: api.OpLit}, {Op: api.OpEq, Kids: []int{0, 1}}}
			p.Rules[i].Conds = append(p.Rules[i].Conds, api.Cond{Kind: api.CondTest, Test: x})
		}
	}
	for _, r := range p.Rules {
		for _, c := range r.Conds {
			for k := range 2 {
				size := min(200, n)
				c.Test[k].V = api.Value{Kind: api.Str, S: strings.Repeat("a", size)}
				n -= size
			}
		}
	}
	return p
}

// P13.1: a text just as long as a source may be, and one byte longer.
func TestLength(t *testing.T) {
	for _, n := range []int{3500, 65000, api.MaxSource - 2, api.MaxSource - 1, api.MaxSource} {
		p := sized(n)
		if fault := holdModel(t, p); fault != "" {
			t.Fatalf("of %d bytes: %s", n, fault)
		}
		if s, _ := Text(p); len(s) != n {
			t.Fatalf("a text of %d bytes, to be %d", len(s), n)
		}
	}
	for n := api.MaxSource + 1; n < api.MaxSource+1000; n += 9 {
		p := sized(n)
		hasNone(t, p, fmt.Sprint("a text of ", n, " bytes"))
		// Each rule by itself is short enough.
		for _, r := range p.Rules {
			if s, e := Rule(r); e != api.OK || len(s) < 100 {
				t.Fatalf("a rule by itself: %q, %d", s, e)
			}
		}
	}
	// One byte more or some, whatever they come in.
	for what, change := range map[string]func(p *api.Program){
		"in a text":         func(p *api.Program) { p.Rules[26].Conds[0].Test[1].V.S += "b" },
		"in the last name":  func(p *api.Program) { p.Rules[26].Name = "rr" },
		"in the first name": func(p *api.Program) { p.Rules[0].Name = "rr" },
		"in an expression":  func(p *api.Program) { p.Rules[1].Conds[1].Test[2].Op = api.OpLe },
		"in a salience":     func(p *api.Program) { p.Rules[26].Salience = 5 },
		"in one more test":  func(p *api.Program) { p.Rules[26].Conds[5].Test = exprOf(t, "\"a\" = \"\"") },
		"in one more line":  func(p *api.Program) { p.Rules[26].Acts = []api.Action{{Kind: api.ActHalt}} },
		"in one more rule":  func(p *api.Program) { p.Rules = append(p.Rules, api.Rule{Name: "r"}) },
		"in a template": func(p *api.Program) {
			p.Templates = []api.Template{{Name: "a", Slots: []api.Slot{{Name: "x", Kind: 1}}}}
		},
	} {
		p := sized(api.MaxSource)
		change(&p)
		hasNone(t, p, "one byte more or some "+what)
	}
}

// P13.1: what was read of a text that is short enough has none that is longer,
// and a text that is as long as it may be has a shorter one.
func TestLengthOfWhatWasRead(t *testing.T) {
	packed := func(n int) string {
		var s string
		for _, r := range sized(n).Rules {
			one, _ := Rule(r)
			s += one
		}
		return strings.NewReplacer("\n  ", "\n", " = ", "=").Replace(s)
	}
	for _, n := range []int{api.MaxSource - 100, api.MaxSource} {
		if s := packed(n); len(s) > n-600 {
			t.Fatalf("%d bytes", len(s))
		}
		want, _ := modelText(sized(n))
		has(t, read(t, packed(n)), want)
	}
	for _, n := range []int{api.MaxSource + 1, api.MaxSource + 600} {
		hasNone(t, read(t, packed(n)), "a text that is longer than what was read")
	}
	has(t, read(t, "rule r when then end"+strings.Repeat(" ", api.MaxSource-20)), "rule r\nwhen\nthen\nend\n")
	has(t, read(t, "rule r when then end;"+strings.Repeat("x", api.MaxSource-21)), "rule r\nwhen\nthen\nend\n")
	for _, at := range []int{0, 4, 12, 20} {
		s := "rule r when then end "
		s = s[:at] + strings.Repeat(" ", api.MaxSource-len(s)) + s[at:]
		has(t, read(t, s), "rule r\nwhen\nthen\nend\n")
	}
}

// P1: programs of very many parts, of very long names, and such that one part
// stands in them very many times: each call ends soon.
func TestVeryMany(t *testing.T) {
	const many = 1 << 17
	name := strings.Repeat("a", 1<<22)
	dash, x := api.Tests{{Op: api.TestAny}}, exprOf(t, "1")
	sets := slices.Repeat([]api.Set{{Slot: "x", E: x}}, many)
	slots := slices.Repeat([]api.SlotTest{{Slot: "x", Test: dash}}, many)
	acts := slices.Repeat([]api.Action{{Kind: api.ActAssert, Name: "a", Sets: sets}}, many)
	group := slices.Repeat([]api.Pattern{{T: "a", Slots: slots}}, many)
	all := slices.Repeat([]api.Cond{{Kind: api.CondNone, Patterns: group}}, many)
	rules := slices.Repeat([]api.Rule{{Name: "r", Conds: all, Acts: acts}}, many)
	kinds := slices.Repeat([]api.Slot{{Name: "x", Kind: api.Int}}, many)
	nodes := slices.Repeat(api.Expr{{Op: api.OpSelf, Kids: make([]int, many)}}, many)
	tests := slices.Repeat(api.Tests{{Op: api.TestIn, A: nodes, B: nodes, Kids: make([]int, many)}}, many)
	texts := slices.Repeat(api.Expr{{Op: api.OpLit, V: api.Value{Kind: api.Str, S: name}}}, 60)
	begun := time.Now()
	for what, p := range map[string]api.Program{
		"rules":                 {Rules: rules},
		"no rules":              {Rules: make([]api.Rule, many)},
		"rules of no parts":     {Rules: slices.Repeat([]api.Rule{{Name: "r"}}, many)},
		"templates":             {Templates: slices.Repeat([]api.Template{{Name: "a", Slots: kinds}}, many)},
		"no templates":          {Templates: make([]api.Template, many)},
		"slots":                 {Templates: []api.Template{{Name: "a", Slots: kinds}}},
		"slots of no kind":      {Templates: []api.Template{{Name: "a", Slots: make([]api.Slot, many)}}},
		"conditions":            one(all),
		"no conditions":         one(make([]api.Cond, many)),
		"a condition's group":   one(all[:1]),
		"patterns of a kind":    one(conds(api.Cond{Kind: api.CondIs, Patterns: group})),
		"patterns of none":      one(conds(api.Cond{Kind: api.CondIs, Patterns: make([]api.Pattern, many)})),
		"patterns of a test":    one(conds(api.Cond{Kind: api.CondTest, Test: x, Patterns: group})),
		"slots' tests":          one(conds(api.Cond{Kind: api.CondIs, Patterns: group[:1]})),
		"actions":               one(nil, acts...),
		"no actions":            one(nil, make([]api.Action, many)...),
		"sets":                  one(nil, acts[:1]...),
		"sets of halt":          one(nil, api.Action{Kind: api.ActHalt, Sets: sets}),
		"nodes":                 one(nil, api.Action{Kind: api.ActAssert, Name: "a", Sets: slices.Repeat([]api.Set{{Slot: "x", E: nodes}}, many)}),
		"tests":                 one(conds(api.Cond{Kind: api.CondIs, Patterns: []api.Pattern{{T: "a", Slots: slices.Repeat([]api.SlotTest{{Slot: "x", Test: tests}}, many)}}})),
		"texts":                 one(slices.Repeat(conds(api.Cond{Kind: api.CondTest, Test: texts}), many)),
		"a rule's name":         {Rules: slices.Repeat([]api.Rule{{Name: name}}, many)},
		"templates' names":      {Templates: slices.Repeat([]api.Template{{Name: name, Slots: slices.Repeat([]api.Slot{{Name: name, Kind: 1}}, many)}}, many)},
		"facts' names":          one(slices.Repeat(conds(api.Cond{Kind: api.CondIs, Patterns: []api.Pattern{{Name: name, T: name}}}), many)),
		"names of patterns":     one(slices.Repeat(conds(api.Cond{Kind: api.CondNot, Patterns: []api.Pattern{{T: name, Slots: slices.Repeat([]api.SlotTest{{Slot: name, Test: dash}}, many)}}}), many)),
		"names of actions":      one(nil, slices.Repeat([]api.Action{{Kind: api.ActLogical, Name: name, Sets: slices.Repeat([]api.Set{{Slot: name, E: x}}, many)}}, many)...),
		"a name of halt":        one(nil, slices.Repeat([]api.Action{{Kind: api.ActHalt, Name: name}}, many)...),
		"names of retract":      one(nil, slices.Repeat([]api.Action{{Kind: api.ActRetract, Name: name}}, many)...),
		"names of no kinds":     one(nil, slices.Repeat([]api.Action{{Name: name, Sets: sets}}, many)...),
		"conditions of no kind": one(slices.Repeat(conds(api.Cond{Patterns: group}), many)),
	} {
		hasNone(t, p, "very many "+what)
	}
	for _, r := range []api.Rule{rules[0], {Name: name}, {Name: "r", Conds: all}, {Name: "r", Acts: acts}} {
		if s, e := Rule(r); s != "" || e != api.ErrForm {
			t.Errorf("a rule of very many parts: %.100q, %d", s, e)
		}
	}
	if d := time.Since(begun); d > 20*time.Second {
		t.Errorf("it took %v", d)
	}
}

// P13.1: nothing is kept from call to call.
func TestNothingIsKept(t *testing.T) {
	p := full(t)
	want, _ := Text(p)
	for range 3 {
		hasNone(t, api.Program{Rules: make([]api.Rule, 1)}, "an empty rule")
		hasNone(t, sized(api.MaxSource+1), "a long program")
		if s, e := Text(p); s != want || e != api.OK {
			t.Errorf("behind others: %q, %d", s, e)
		}
		has(t, api.Program{}, "")
	}
}
