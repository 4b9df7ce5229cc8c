package eprint

import (
	"math"
	"slices"
	"strings"
	"testing"

	"witan/api"
	"witan/expr"
)

func whole(n int64) api.Value { return api.Value{Kind: api.Int, N: n} }

func dec(units int64) api.Value { return api.Value{Kind: api.Dec, N: units} }

func text(s string) api.Value { return api.Value{Kind: api.Str, S: s} }

func sym(s string) api.Value { return api.Value{Kind: api.Sym, S: s} }

func truth(n int64) api.Value { return api.Value{Kind: api.Bool, N: n} }

func lit(v api.Value) api.Node { return api.Node{Op: api.OpLit, V: v} }

func one() api.Node { return lit(whole(1)) }

func named(s string) api.Node { return api.Node{Op: api.OpVar, Name: s} }

func self() api.Node { return api.Node{Op: api.OpSelf} }

func node(op uint8, kids ...int) api.Node { return api.Node{Op: op, Kids: kids} }

func tree(l ...api.Node) api.Expr { return l }

// read is the tree of a text that layer 7 takes.
func read(t *testing.T, s string) api.Expr {
	t.Helper()
	x, at, e := expr.Read(s)
	if e != api.OK {
		t.Fatalf("Read(%.300q): %v, %d", s, at, e)
	}
	return x
}

// hold asks that x has that text, which is read as x.
func hold(t *testing.T, x api.Expr, want string) {
	t.Helper()
	s, e := Text(x)
	if s != want || e != api.OK || !May(x) {
		t.Errorf("Text(%v) = %q, %d; May %v; want %q", x, s, e, May(x), want)
		return
	}
	if y, _, e := expr.Read(s); e != api.OK || !expr.Same(x, y) {
		t.Errorf("%q is read as %v, %d; want %v", s, y, e, x)
	}
}

// holdOf asks for the text of what is read of s.
func holdOf(t *testing.T, s, want string) {
	t.Helper()
	hold(t, read(t, s), want)
}

// refuse asks that x may not be.
func refuse(t *testing.T, x api.Expr) {
	t.Helper()
	if s, e := Text(x); s != "" || e != api.ErrForm || May(x) {
		t.Errorf("Text(%.300v) = %.300q, %d; May %v; want none, %d", x, s, e, May(x), api.ErrForm)
	}
}

// P8.1: literals

func TestLiterals(t *testing.T) {
	for _, x := range []struct {
		v api.Value
		s string
	}{
		{api.Value{}, "null"}, {truth(1), "true"}, {truth(0), "false"},
		{whole(0), "0"}, {whole(1), "1"}, {whole(10), "10"}, {whole(math.MaxInt64), "9223372036854775807"},
		{dec(0), "0.0"}, {dec(1), "0.0001"}, {dec(15000), "1.5"}, {dec(10000), "1.0"}, {dec(10010), "1.001"}, {dec(math.MaxInt64), "922337203685477.5807"},
		{text(""), `""`}, {text("a b"), `"a b"`}, {text(`"`), `"\""`}, {text(`\`), `"\\"`}, {text(`a"b\c`), `"a\"b\\c"`}, {text("; ,()"), `"; ,()"`}, {text("1 + 2"), `"1 + 2"`}, {text(" ~"), `" ~"`},
		{text(strings.Repeat("x", 200)), `"` + strings.Repeat("x", 200) + `"`},
		{text(strings.Repeat(`"`, 200)), `"` + strings.Repeat(`\"`, 200) + `"`},
		{text(strings.Repeat(`\`, 200)), `"` + strings.Repeat(`\\`, 200) + `"`},
		{sym("a"), "#a"}, {sym("true"), "#true"}, {sym("a1"), "#a1"}, {sym("abcdefghijkl"), "#abcdefghijkl"},
	} {
		hold(t, tree(lit(x.v)), x.s)
		hold(t, tree(lit(x.v), node(api.OpNeg, 0)), "-"+x.s)
		hold(t, tree(lit(x.v), node(api.OpNot, 0)), "not "+x.s)
		hold(t, tree(lit(x.v), lit(x.v), node(api.OpSub, 0, 1)), x.s+" - "+x.s)
		hold(t, tree(lit(x.v), node(api.OpLen, 0)), "length("+x.s+")")
	}
}

func TestLiteralsThatMayNotBe(t *testing.T) {
	for _, v := range []api.Value{
		whole(-1), whole(-10), whole(math.MinInt64), dec(-1), dec(-15000), dec(math.MinInt64),
		{Kind: api.Null, N: 1}, {Kind: api.Null, S: "null"}, {Kind: api.Int, N: 5, S: "5"}, {Kind: api.Dec, S: "a"},
		truth(2), truth(-1), truth(math.MaxInt64), {Kind: api.Bool, N: 1, S: "true"},
		text("\x1f"), text("\x7f"), text("a\nb"), text("\xff"), text("\u00e9"), text("\x00"), {Kind: api.Str, N: 1}, {Kind: api.Str, N: 1, S: "a"},
		text(strings.Repeat("x", 201)), text(strings.Repeat(`"`, 201)), text(strings.Repeat("x", 1<<17)),
		sym(""), sym("A"), sym("1"), sym("a b"), sym("a_b"), sym("#a"), sym("abcdefghijklm"), sym("a, #b"), {Kind: api.Sym, N: 1, S: "a"},
		{Kind: 6}, {Kind: 7, N: 1}, {Kind: 255, N: 1, S: "a"},
	} {
		refuse(t, tree(lit(v)))
		refuse(t, tree(lit(v), node(api.OpNeg, 0)))
		refuse(t, tree(lit(v), node(api.OpNot, 0)))
		refuse(t, tree(lit(v), one(), node(api.OpSub, 0, 1)))
		refuse(t, tree(one(), lit(v), node(api.OpSub, 0, 1)))
		refuse(t, tree(one(), lit(v), node(api.OpMin, 0, 1)))
		refuse(t, tree(lit(v), node(api.OpMax, 0)))
	}
}

// P8.1: variables and self

func TestVariables(t *testing.T) {
	for _, s := range []string{"a", "z", "a1", "ab", "not", "true", "null", "or", "min", "abcdefghijkl", "a23456789012"} {
		hold(t, tree(named(s)), "?"+s)
		hold(t, tree(named(s), node(api.OpNeg, 0)), "-?"+s)
		hold(t, tree(named(s), self(), node(api.OpEq, 0, 1)), "?"+s+" = ?")
		hold(t, tree(self(), named(s), node(api.OpMod, 0, 1)), "mod(?, ?"+s+")")
	}
	hold(t, tree(self()), "?")
	hold(t, tree(self(), node(api.OpNot, 0)), "not ?")
	hold(t, tree(self(), node(api.OpNeg, 0)), "-?")
	for _, s := range []string{"", "A", "X", "1", "1a", "aB", "a_b", "a-b", "?a", "a b", " a", "a ", "(a)", "a + ?b", "a, ?b", "a;", "\u00e9", "a\x00", "abcdefghijklm", strings.Repeat("a", 1<<17)} {
		refuse(t, tree(named(s)))
		refuse(t, tree(named(s), node(api.OpNot, 0)))
		refuse(t, tree(named(s), one(), node(api.OpAdd, 0, 1)))
		refuse(t, tree(one(), named(s), node(api.OpAdd, 0, 1)))
		refuse(t, tree(named(s), node(api.OpAbs, 0)))
	}
}

// P8.1: what a node has none of

func TestWhatANodeHasNoneOf(t *testing.T) {
	x := read(t, `if(not ? = -?a, "s", max(1, #b) * 2)`)
	hold(t, x, `if(not ? = -?a, "s", max(1, #b) * 2)`)
	for i, n := range x {
		for _, v := range []api.Value{whole(1), truth(0), text(""), dec(0), {N: 1}, {S: "a"}, {Kind: 9}} {
			if n.Op != api.OpLit {
				refuse(t, with(x, i, func(n *api.Node) { n.V = v }))
			}
		}
		for _, s := range []string{"a", "s", "b", "A", " ", strings.Repeat("a", 1<<17)} {
			if n.Op != api.OpVar {
				refuse(t, with(x, i, func(n *api.Node) { n.Name = s }))
			}
		}
		if len(n.Kids) == 0 {
			for _, l := range [][]int{{0}, {i - 1}, {i}, {i + 1}, {-1}, {0, 1}} {
				refuse(t, with(x, i, func(n *api.Node) { n.Kids = l }))
			}
			hold(t, with(x, i, func(n *api.Node) { n.Kids = []int{} }), `if(not ? = -?a, "s", max(1, #b) * 2)`)
		}
	}
}

// with is x, but for a node.
func with(x api.Expr, i int, change func(n *api.Node)) api.Expr {
	y := slices.Clone(x)
	change(&y[i])
	return y
}

// P8.1: operators and calls

func TestOperators(t *testing.T) {
	for op, s := range map[uint8]string{
		api.OpOr: "or", api.OpAnd: "and", api.OpEq: "=", api.OpNe: "<>", api.OpLt: "<", api.OpLe: "<=", api.OpGt: ">", api.OpGe: ">=",
		api.OpAdd: "+", api.OpSub: "-", api.OpMul: "*", api.OpDiv: "/",
	} {
		hold(t, tree(one(), self(), node(op, 0, 1)), "1 "+s+" ?")
		hold(t, tree(self(), named("a"), node(op, 0, 1)), "? "+s+" ?a")
		hold(t, tree(lit(sym("s")), lit(truth(1)), node(op, 0, 1)), "#s "+s+" true")
		holdOf(t, "((?))"+s+";\n(-1)", "? "+s+" -1")
		for _, l := range [][]int{nil, {0}, {1}, {0, 1, 1}, {1, 0}, {0, 0}, {1, 1}, {0, 2}, {2, 1}, {-1, 1}, {0, 1, 2}} {
			refuse(t, tree(one(), self(), node(op, l...)))
		}
		refuse(t, tree(node(op)))
		refuse(t, tree(one(), node(op, 0)))
		refuse(t, tree(one(), one(), one(), node(op, 0, 1, 2)))
	}
	for op, s := range map[uint8]string{api.OpNot: "not ", api.OpNeg: "-"} {
		hold(t, tree(self(), node(op, 0)), s+"?")
		hold(t, tree(one(), node(op, 0)), s+"1")
		holdOf(t, s+"\n( (?a) )", s+"?a")
		refuse(t, tree(node(op)))
		refuse(t, tree(self(), node(op)))
		refuse(t, tree(self(), node(op, 1)))
		refuse(t, tree(self(), node(op, -1)))
		refuse(t, tree(self(), node(op, 0, 0)))
		refuse(t, tree(self(), self(), node(op, 0, 1)))
	}
}

func TestTheExamples(t *testing.T) {
	holdOf(t, "(?a)+((2*3))", "?a + 2 * 3")
	holdOf(t, "1-(2-3)", "1 - (2 - 3)")
	holdOf(t, "not (?p and true)", "not (?p and true)")
	holdOf(t, "-(1)", "-1")
}

func TestCalls(t *testing.T) {
	for _, c := range []struct {
		op           uint8
		word         string
		fewest, most int
	}{
		{api.OpAbs, "abs", 1, 1}, {api.OpMin, "min", 1, 8}, {api.OpMax, "max", 1, 8}, {api.OpMod, "mod", 2, 2}, {api.OpLen, "length", 1, 1},
		{api.OpUp, "upper", 1, 1}, {api.OpHas, "contains", 2, 2}, {api.OpHead, "starts", 2, 2}, {api.OpIf, "if", 3, 3},
	} {
		for n := range 12 {
			var x api.Expr
			var kids []int
			for i := range n {
				x = append(x, lit(whole(int64(i))))
				kids = append(kids, i)
			}
			x = append(x, node(c.op, kids...))
			if n < c.fewest || n > c.most {
				refuse(t, x)
				refuse(t, append(x, node(api.OpNeg, n)))
				continue
			}
			hold(t, x, c.word+"("+strings.Join(strings.Split("01234567"[:n], ""), ", ")+")")
			hold(t, append(x, node(api.OpNeg, n)), "-"+c.word+"("+strings.Join(strings.Split("01234567"[:n], ""), ", ")+")")
		}
	}
	holdOf(t, "if((?a or ?b),(not ?c),((1)=2))", "if(?a or ?b, not ?c, 1 = 2)")
	holdOf(t, "min( (1+2) , (-3) , abs((4*5)) )", "min(1 + 2, -3, abs(4 * 5))")
	holdOf(t, "upper(\"a\")=\"A\"", `upper("a") = "A"`)
}

// P8.1: parentheses

// pairs of texts: each is read as it stands, and without a pair of parentheses
// as another tree, or not at all.
func TestParenthesesThatStay(t *testing.T) {
	for _, s := range []string{
		"(1 or 2) and 3", "1 and (2 or 3)", "1 or (2 or 3)", "1 and (2 and 3)", "not (1 or 2)", "not (1 and 2)",
		"(not 1) = 2", "1 = (not 2)", "(1 = 2) = 3", "1 = (2 = 3)", "(1 < 2) <> (3 >= 4)", "(1 or 2) = 3", "1 = (2 and 3)",
		"(1 = 2) + 3", "1 + (2 = 3)", "(not 1) + 2", "1 - (not 2)", "1 - (2 + 3)", "1 + (2 - 3)", "1 + (2 + 3)", "1 - (2 - 3)",
		"(1 + 2) * 3", "1 * (2 + 3)", "1 / (2 * 3)", "1 * (2 / 3)", "1 * (2 * 3)", "1 / (2 / 3)", "(not 1) * 2", "1 * (2 = 3)",
		"-(1 + 2)", "-(1 * 2)", "-(1 = 2)", "-(not 1)", "-(1 or 2)", "-(-(1 + 2) - 3)", "not (not (1 or 2) and 3)",
		"(1 or 2) and (3 or 4)", "(1 + 2) * (3 - 4) / (5 + 6)", "1 - (2 - (3 - 4))", "not (1 or not (2 or 3))",
	} {
		holdOf(t, s, s)
		holdOf(t, "(("+s+"))", s)
	}
}

func TestParenthesesThatGo(t *testing.T) {
	for _, x := range [][2]string{
		{"(1 or 2) or 3", "1 or 2 or 3"}, {"1 or (2 and 3)", "1 or 2 and 3"}, {"(1 and 2) or 3", "1 and 2 or 3"}, {"(1 and 2) and 3", "1 and 2 and 3"},
		{"(not 1) and 2", "not 1 and 2"}, {"1 and (not 2)", "1 and not 2"}, {"(not 1) or (not 2)", "not 1 or not 2"}, {"not (1 = 2)", "not 1 = 2"}, {"not (not 1)", "not not 1"}, {"not (1 + 2)", "not 1 + 2"},
		{"(1 = 2) and (3 < 4)", "1 = 2 and 3 < 4"}, {"(1 + 2) = (3 * 4)", "1 + 2 = 3 * 4"}, {"(-1) = (-2)", "-1 = -2"}, {"not (-1)", "not -1"},
		{"(1 - 2) - 3", "1 - 2 - 3"}, {"(1 + 2) - 3", "1 + 2 - 3"}, {"(1 - 2) + 3", "1 - 2 + 3"}, {"1 + (2 * 3)", "1 + 2 * 3"}, {"(1 / 2) - 3", "1 / 2 - 3"}, {"1 - (-2)", "1 - -2"}, {"(-1) - 2", "-1 - 2"},
		{"(1 * 2) / 3", "1 * 2 / 3"}, {"(1 / 2) * 3", "1 / 2 * 3"}, {"(-1) * (-2)", "-1 * -2"}, {"-(-1)", "--1"}, {"-(-(-(?)))", "---?"},
		{"-(abs(1))", "-abs(1)"}, {"not (abs(1))", "not abs(1)"}, {"(abs(1)) * (abs(2))", "abs(1) * abs(2)"}, {"abs((1 or 2))", "abs(1 or 2)"}, {"mod((not 1), (2 = 3))", "mod(not 1, 2 = 3)"},
		{"(?)", "?"}, {"((((?a))))", "?a"}, {"(null)", "null"}, {"-(\"a\")", "-\"a\""}, {"(1)+(2)", "1 + 2"},
	} {
		holdOf(t, x[0], x[1])
		holdOf(t, x[1], x[1])
	}
}

// P8.1: how many nodes, how deep

// sums is 1 + 1 + .. of n ones, below so many minus.
func sums(n, minus int) (api.Expr, string) {
	x := tree(one())
	s := "1"
	for range n - 1 {
		x = append(x, one(), node(api.OpAdd, len(x)-1, len(x)))
		s += " + 1"
	}
	if n > 1 && minus > 0 {
		s = "(" + s + ")"
	}
	for range minus {
		x = append(x, node(api.OpNeg, len(x)-1))
		s = "-" + s
	}
	return x, s
}

func TestHowManyNodes(t *testing.T) {
	refuse(t, nil)
	refuse(t, tree())
	for n := 1; n <= 40; n++ {
		for minus := range 3 {
			x, s := sums(n, minus)
			if len(x) > 60 {
				refuse(t, x)
			} else {
				hold(t, x, s)
			}
		}
	}
	x, _ := sums(30, 1)
	if len(x) != 60 || !May(x) {
		t.Errorf("%d nodes: May %v", len(x), May(x))
	}
	x, _ = sums(31, 0)
	if len(x) != 61 || May(x) {
		t.Errorf("%d nodes: May %v", len(x), May(x))
	}
	x, _ = sums(3000, 0)
	refuse(t, x)
}

// 60 nodes of which as many as may be are strings: no text is longer.
func TestTheLongestTexts(t *testing.T) {
	long := `"` + strings.Repeat(`\\`, 200) + `"`
	least := "min(" + strings.Repeat(long+", ", 7) + long + ")"
	s := "not max(" + strings.Repeat(least+", ", 6) + long + ", " + long + ") = " + long
	if x := read(t, s); len(x) != 60 {
		t.Errorf("%d nodes", len(x))
	}
	holdOf(t, s, s)
}

// nested puts an operator n times around x; level tells how it is done once.
func nested(x api.Expr, n int, level func(x api.Expr) api.Expr) api.Expr {
	for range n {
		x = level(x)
	}
	return x
}

// above is x below an op that has but one expression.
func above(op uint8) func(x api.Expr) api.Expr {
	return func(x api.Expr) api.Expr { return append(slices.Clip(x), node(op, len(x)-1)) }
}

// rightOf is x to the right of an operator, a 1 being to its left.
func rightOf(op uint8) func(x api.Expr) api.Expr {
	return func(x api.Expr) api.Expr {
		y := tree(one())
		for _, n := range x {
			var kids []int
			for _, k := range n.Kids {
				kids = append(kids, k+1)
			}
			n.Kids = kids
			y = append(y, n)
		}
		return append(y, node(op, 0, len(y)-1))
	}
}

// leftOf is x to the left of an operator, a 1 being to its right.
func leftOf(op uint8) func(x api.Expr) api.Expr {
	return func(x api.Expr) api.Expr {
		return append(slices.Clip(x), one(), node(op, len(x)-1, len(x)))
	}
}

func TestDepthOfTheTree(t *testing.T) {
	for op, s := range map[uint8][2]string{
		api.OpNot: {"not ", ""}, api.OpNeg: {"-", ""}, api.OpAbs: {"abs(", ")"}, api.OpMin: {"min(", ")"}, api.OpMax: {"max(", ")"}, api.OpLen: {"length(", ")"}, api.OpUp: {"upper(", ")"},
	} {
		for n := range 13 {
			hold(t, nested(tree(self()), n, above(op)), strings.Repeat(s[0], n)+"?"+strings.Repeat(s[1], n))
		}
		for n := 13; n < 60; n++ {
			refuse(t, nested(tree(self()), n, above(op)))
		}
		for _, other := range []uint8{api.OpAbs, api.OpNeg} {
			if op == api.OpNot && other == api.OpNeg {
				continue
			}
			hold(t, nested(nested(tree(self()), 6, above(op)), 6, above(other)), strings.Repeat(map[uint8]string{api.OpAbs: "abs(", api.OpNeg: "-"}[other], 6)+strings.Repeat(s[0], 6)+"?"+strings.Repeat(s[1], 6)+strings.Repeat(map[uint8]string{api.OpAbs: ")"}[other], 6))
			refuse(t, nested(nested(tree(self()), 7, above(op)), 6, above(other)))
		}
	}
	// the parentheses around a not are one more
	hold(t, nested(nested(tree(self()), 6, above(api.OpNot)), 5, above(api.OpNeg)), "-----(not not not not not not ?)")
	refuse(t, nested(nested(tree(self()), 6, above(api.OpNot)), 6, above(api.OpNeg)))
	refuse(t, nested(nested(tree(self()), 7, above(api.OpNot)), 5, above(api.OpNeg)))
}

func TestDepthOfParentheses(t *testing.T) {
	for op, s := range map[uint8]string{
		api.OpOr: "or", api.OpAnd: "and", api.OpEq: "=", api.OpNe: "<>", api.OpLt: "<", api.OpLe: "<=", api.OpGt: ">", api.OpGe: ">=",
		api.OpAdd: "+", api.OpSub: "-", api.OpMul: "*", api.OpDiv: "/",
	} {
		// the innermost operator has no parentheses around it
		for n := range 13 {
			hold(t, nested(tree(self(), self(), node(op, 0, 1)), n, rightOf(op)), strings.Repeat("1 "+s+" (", n)+"? "+s+" ?"+strings.Repeat(")", n))
		}
		for n := 13; n < 28; n++ {
			refuse(t, nested(tree(self(), self(), node(op, 0, 1)), n, rightOf(op)))
		}
		if op < api.OpEq || op > api.OpGe {
			hold(t, nested(tree(self()), 29, leftOf(op)), "?"+strings.Repeat(" "+s+" 1", 29))
			refuse(t, nested(tree(self()), 30, leftOf(op)))
			continue
		}
		hold(t, nested(tree(self(), self(), node(op, 0, 1)), 12, leftOf(op)), strings.Repeat("(", 12)+"? "+s+" ?"+strings.Repeat(") "+s+" 1", 12))
		refuse(t, nested(tree(self(), self(), node(op, 0, 1)), 13, leftOf(op)))
	}
	// each of these is one level by itself and one by its parentheses
	minus := func(x api.Expr) api.Expr { return above(api.OpNeg)(rightOf(api.OpAdd)(x)) }
	hold(t, nested(tree(self()), 6, minus), strings.Repeat("-(1 + ", 6)+"?"+strings.Repeat(")", 6))
	refuse(t, nested(tree(self()), 7, minus))
	hold(t, above(api.OpAbs)(nested(nested(tree(self(), node(api.OpNeg, 0)), 5, minus), 1, rightOf(api.OpSub))), "abs(1 - "+strings.Repeat("-(1 + ", 5)+"-?"+strings.Repeat(")", 6))
	refuse(t, above(api.OpAbs)(nested(nested(tree(self(), node(api.OpNeg, 0)), 6, minus), 1, rightOf(api.OpSub))))
	not := func(x api.Expr) api.Expr { return above(api.OpNot)(leftOf(api.OpOr)(x)) }
	hold(t, nested(tree(self()), 6, not), strings.Repeat("not (", 6)+"?"+strings.Repeat(" or 1)", 6))
	refuse(t, nested(tree(self()), 7, not))
}

// P8.1: lists of nodes' numbers

func TestLists(t *testing.T) {
	x := read(t, "max(1, 2, -3)") // 1, 2, 3, -, max
	hold(t, x, "max(1, 2, -3)")
	for _, l := range [][]int{
		{1, 0, 3}, {3, 1, 0}, {0, 3, 1}, {0, 1, 1}, {0, 0, 3}, {3, 3, 3}, {0, 1, 2}, {0, 1, 2, 3}, {2, 0, 1, 3},
		{0, 1, 4}, {4, 1, 3}, {0, 1, 5}, {0, 1, 99}, {0, 1, -1}, {-1, 1, 3}, {0, 1, math.MaxInt}, {0, 1, math.MinInt},
		{0, 1}, {1, 3}, {3}, {0}, {}, nil, {0, 1, 3, 3}, {0, 0, 1, 3}, {0, 1, 3, 4},
	} {
		refuse(t, with(x, 4, func(n *api.Node) { n.Kids = l }))
	}
	for _, k := range []int{0, 1, 3, 4, 5, -1, math.MinInt} {
		refuse(t, with(x, 3, func(n *api.Node) { n.Kids = []int{k} }))
	}
	refuse(t, with(x, 4, func(n *api.Node) { n.Kids = make([]int, 1<<16) }))
	// behind those below it, but not right behind them
	refuse(t, tree(one(), self(), node(api.OpNeg, 0), node(api.OpAdd, 2, 1)))
	refuse(t, tree(one(), self(), node(api.OpNeg, 0), node(api.OpAdd, 1, 2)))
	hold(t, tree(one(), self(), node(api.OpNeg, 1), node(api.OpAdd, 0, 2)), "1 + -?")
	// below none but the last one
	refuse(t, tree(self(), self()))
	refuse(t, tree(self(), one(), node(api.OpNeg, 1)))
	refuse(t, tree(one(), node(api.OpNeg, 0), self()))
	refuse(t, tree(self(), one(), one(), node(api.OpAdd, 1, 2)))
	// below two
	refuse(t, tree(one(), node(api.OpAdd, 0, 0)))
	refuse(t, tree(one(), node(api.OpNeg, 0), node(api.OpAdd, 0, 1)))
	refuse(t, tree(one(), node(api.OpNeg, 0), node(api.OpNeg, 0), node(api.OpAdd, 1, 2)))
	// rings
	refuse(t, tree(node(api.OpNeg, 0)))
	refuse(t, tree(node(api.OpNeg, 1), node(api.OpNeg, 0)))
	refuse(t, tree(node(api.OpAdd, 0, 0), node(api.OpAdd, 0, 1), node(api.OpAdd, 1, 1)))
}

// Texts of nodes that stand below two each would be longer than all that there is.
func TestNodesBelowTwoOverAndOver(t *testing.T) {
	x := tree(one())
	for i := range 59 {
		x = append(x, node(api.OpAdd, i, i))
	}
	refuse(t, x)
	x = tree(one())
	for i := range 59 {
		x = append(x, node(api.OpMin, i, i, i, i, i, i, i, i))
	}
	refuse(t, x)
}

// A name of any length stands at many nodes.
func TestLongNamesEndSoon(t *testing.T) {
	long := strings.Repeat("a", 1<<24)
	x := tree(named(long))
	for i := range 29 {
		x = append(x, named(long), node(api.OpAdd, 2*i, 2*i+1))
	}
	refuse(t, x)
	refuse(t, tree(lit(sym(long)), lit(text(long)), node(api.OpAdd, 0, 1)))
}

// P8.1: ops that are none

func TestOpsThatAreNone(t *testing.T) {
	for op := range 256 {
		if op >= 1 && op <= 26 {
			continue
		}
		refuse(t, tree(node(uint8(op))))
		refuse(t, tree(api.Node{Op: uint8(op), V: whole(1)}))
		refuse(t, tree(api.Node{Op: uint8(op), Name: "a"}))
		refuse(t, tree(one(), node(uint8(op), 0)))
		refuse(t, tree(one(), one(), node(uint8(op), 0, 1)))
		refuse(t, tree(one(), one(), one(), node(uint8(op), 0, 1, 2)))
		refuse(t, tree(node(uint8(op)), node(api.OpNeg, 0)))
		refuse(t, tree(one(), node(uint8(op)), node(api.OpAdd, 0, 1)))
	}
}

// P8.1: places are not asked, what is handed in is not changed

func TestPlacesAreNotAsked(t *testing.T) {
	s := "if(not ?p, -?x * (1 - 2), mod(#a, ?))"
	x := read(t, "\n\n "+strings.ReplaceAll(s, " ", "  ;\n"))
	hold(t, x, s)
	for i := range x {
		hold(t, with(x, i, func(n *api.Node) { n.At = api.Place{} }), s)
		hold(t, with(x, i, func(n *api.Node) { n.At = api.Place{Line: math.MinInt, Col: math.MaxInt} }), s)
	}
}

func TestExpressionsAreNotChanged(t *testing.T) {
	for _, s := range []string{"max(1, 2 - (3 - 4), -?a, #b)", "?", "1"} {
		x, y := read(t, s), read(t, s)
		x = append(x, node(99, 7))[:len(x)]
		Text(x)
		May(x)
		for i := range x {
			if !expr.Same(x[i:i+1], y[i:i+1]) || x[i].At != y[i].At {
				t.Errorf("%q: node %d is %v, was %v", s, i, x[i], y[i])
			}
		}
		if n := x[:len(x)+1][len(x)]; n.Op != 99 || !slices.Equal(n.Kids, []int{7}) {
			t.Errorf("%q: behind it stands %v", s, n)
		}
	}
}

// P8.2

func TestInfix(t *testing.T) {
	want := map[uint8]string{4: "or", 5: "and", 7: "=", 8: "<>", 9: "<", 10: "<=", 11: ">", 12: ">=", 13: "+", 14: "-", 15: "*", 16: "/"}
	for op := range 256 {
		if got := Infix(uint8(op)); got != want[uint8(op)] {
			t.Errorf("Infix(%d) = %q, want %q", op, got, want[uint8(op)])
		}
	}
	for op, s := range want {
		if x := read(t, "1 "+s+" 2"); x[2].Op != op {
			t.Errorf("%q is read as op %d, want %d", s, x[2].Op, op)
		}
	}
}
