package eval

import (
	"math"
	"strings"
	"testing"

	"witan/api"
	"witan/expr"
	"witan/value"
	"witan/vtext"
)

const (
	least    = math.MinInt64
	greatest = math.MaxInt64
)

func null() api.Value { return api.Value{} }

func integer(n int64) api.Value { return api.Value{Kind: api.Int, N: n} }

func dec(n int64) api.Value { return api.Value{Kind: api.Dec, N: n} }

func str(s string) api.Value { return api.Value{Kind: api.Str, S: s} }

func truth(n int64) api.Value { return api.Value{Kind: api.Bool, N: n} }

func sym(s string) api.Value { return api.Value{Kind: api.Sym, S: s} }

// usual is a binding of each kind, and of some ends; z is not bound.
func usual() []api.Binding {
	return []api.Binding{
		{Name: "n"}, {Name: "i", V: integer(7)}, {Name: "d", V: dec(25000)}, {Name: "s", V: str("Abc")}, {Name: "b", V: truth(1)}, {Name: "f", V: truth(0)}, {Name: "y", V: sym("abc")},
		{Name: "least", V: integer(least)}, {Name: "most", V: integer(greatest)}, {Name: "leastd", V: dec(least)}, {Name: "mostd", V: dec(greatest)},
		{Name: "e", V: str("")}, {Name: "bad", V: truth(2)},
	}
}

// errors by the words that tests have for them.
func errorOf(word string) api.Errno {
	return map[string]api.Errno{"!arg": api.ErrArg, "!kind": api.ErrKind, "!over": api.ErrOver, "!div": api.ErrDiv, "!scope": api.ErrScope}[word]
}

// read is the tree of a text that layer 7 takes.
func read(t *testing.T, s string) api.Expr {
	t.Helper()
	x, at, e := expr.Read(s)
	if e != api.OK {
		t.Fatalf("Read(%.300q): %v, %d", s, at, e)
	}
	return x
}

// holdTree asks that x has an answer: a value's text, or an error's word.
func holdTree(t *testing.T, x api.Expr, self api.Value, vars []api.Binding, want string) {
	t.Helper()
	v, e := Value(x, self, vars)
	if strings.HasPrefix(want, "!") {
		if v != null() || e != errorOf(want) || e == api.OK {
			t.Errorf("Value(%.300v) = %#v, %d; want %s", x, v, e, want)
		}
		return
	}
	if w, ok := vtext.Parse(want); ok != api.OK || v != w || e != api.OK {
		t.Errorf("Value(%.300v) = %#v, %d; want %s", x, v, e, want)
	}
}

// hold asks the same of a text, by the usual bindings, of which self is ?d.
func hold(t *testing.T, text, want string) {
	t.Helper()
	v, e := Value(read(t, text), dec(25000), usual())
	got := vtext.Text(v)
	if e != api.OK {
		got = "!" + map[api.Errno]string{api.ErrArg: "arg", api.ErrKind: "kind", api.ErrOver: "over", api.ErrDiv: "div", api.ErrScope: "scope"}[e]
		if v != null() {
			t.Errorf("Value(%q) = %#v beside %s", text, v, got)
		}
	}
	if got != want {
		t.Errorf("Value(%q) = %s; want %s", text, got, want)
	}
}

// holdAll asks it of texts and answers by turns.
func holdAll(t *testing.T, l ...string) {
	t.Helper()
	if len(l)%2 != 0 {
		t.Fatalf("%d texts", len(l))
	}
	for i := 0; i < len(l); i += 2 {
		hold(t, l[i], l[i+1])
	}
}

// P10.1: the chapter's examples

func TestExamples(t *testing.T) {
	holdAll(t,
		"1 / 0 = 1 or true", "!div",
		"true or 1 / 0 = 1", "true",
		"null and false", "false",
		"1 + null", "null",
		"?n = null", "true",
		"if(null, 1, 2)", "null",
	)
}

// P10.1: atoms

func TestLiterals(t *testing.T) {
	holdAll(t, "null", "null", "0", "0", "7", "7", "1.5", "1.5", `""`, `""`, `"a b"`, `"a b"`, "true", "true", "false", "false", "#abc", "#abc", "((7))", "7", "9223372036854775807", "9223372036854775807")
	for _, v := range good() {
		x := api.Expr{{Op: api.OpLit, V: v}}
		if got, e := Value(x, null(), nil); got != v || e != api.OK {
			t.Errorf("Value of a literal %#v = %#v, %d", v, got, e)
		}
	}
	for _, v := range wrong() {
		holdTree(t, api.Expr{{Op: api.OpLit, V: v}}, null(), nil, "!arg")
		holdTree(t, api.Expr{{Op: api.OpLit, V: v}, {Op: api.OpNot, Kids: []int{0}}}, null(), nil, "!arg")
	}
}

func TestVariables(t *testing.T) {
	holdAll(t, "?n", "null", "?i", "7", "?d", "2.5", "?s", `"Abc"`, "?b", "true", "?f", "false", "?y", "#abc", "?z", "!scope", "?bad", "!arg", "?least", "-9223372036854775808")
	x := read(t, "?v")
	for _, v := range good() {
		if got, e := Value(x, null(), []api.Binding{{Name: "w", V: integer(1)}, {Name: "v", V: v}}); got != v || e != api.OK {
			t.Errorf("Value of a variable %#v = %#v, %d", v, got, e)
		}
	}
	for _, v := range wrong() {
		holdTree(t, x, null(), []api.Binding{{Name: "v", V: v}}, "!arg")
		holdTree(t, x, v, []api.Binding{{Name: "w", V: v}, {Name: "v", V: integer(3)}, {Name: "u", V: v}}, "3")
	}
	for _, vars := range [][]api.Binding{nil, {}, {{Name: "w"}}, {{Name: "V"}}, {{Name: "?v"}}, {{Name: "v "}}, {{Name: " v"}}, {{Name: "vv"}}, {{Name: ""}}} {
		holdTree(t, x, integer(1), vars, "!scope")
	}
}

// The first binding of a name tells, whatever another one is.
func TestVariablesThatAreBoundTwice(t *testing.T) {
	x := read(t, "?v")
	bad := truth(2)
	holdTree(t, x, null(), []api.Binding{{Name: "v", V: integer(1)}, {Name: "v", V: integer(2)}}, "1")
	holdTree(t, x, null(), []api.Binding{{Name: "w", V: integer(3)}, {Name: "v", V: integer(2)}, {Name: "v", V: integer(1)}, {Name: "v"}}, "2")
	holdTree(t, x, null(), []api.Binding{{Name: "v"}, {Name: "v", V: integer(1)}}, "null")
	holdTree(t, x, null(), []api.Binding{{Name: "v", V: bad}, {Name: "v", V: integer(1)}}, "!arg")
	holdTree(t, x, null(), []api.Binding{{Name: "v", V: integer(1)}, {Name: "v", V: bad}}, "1")
}

// A name is any text here.
func TestVariablesOfAnyName(t *testing.T) {
	for _, s := range []string{"", "A", "?", "a b", "\x00", "\xff", "abcdefghijklm", strings.Repeat("long", 1<<14)} {
		x := api.Expr{{Op: api.OpVar, Name: s}}
		holdTree(t, x, integer(1), []api.Binding{{Name: "a", V: integer(2)}, {Name: s, V: integer(3)}}, "3")
		holdTree(t, x, integer(1), []api.Binding{{Name: s + "x", V: integer(2)}, {Name: "x" + s, V: integer(2)}}, "!scope")
	}
}

func TestSelf(t *testing.T) {
	for _, v := range good() {
		if got, e := Value(read(t, "?"), v, usual()); got != v || e != api.OK {
			t.Errorf("Value of self %#v = %#v, %d", v, got, e)
		}
	}
	for _, v := range wrong() {
		holdTree(t, read(t, "?"), v, usual(), "!arg")
		holdTree(t, read(t, "1 + ?"), v, usual(), "!arg")
		holdTree(t, read(t, "1 + ?i"), v, usual(), "8")
		holdTree(t, read(t, "false and ? = 1"), v, usual(), "false")
	}
	holdTree(t, read(t, "?"), integer(3), []api.Binding{{Name: ""}, {Name: "?"}, {Name: "self"}}, "3")
	holdTree(t, read(t, "? = null"), null(), nil, "true")
}

// What a node's op does not have means nothing.
func TestWhatAnAtomDoesNotHave(t *testing.T) {
	vars := []api.Binding{{Name: "v", V: integer(5)}}
	bad := truth(2)
	holdTree(t, api.Expr{{Op: 99}, {Op: api.OpLit, V: integer(1), Name: "v", Kids: []int{0, 5, -1}}}, bad, vars, "1")
	holdTree(t, api.Expr{{Op: 99}, {Op: api.OpVar, V: bad, Name: "v", Kids: []int{0, 5, -1}}}, bad, vars, "5")
	holdTree(t, api.Expr{{Op: 99}, {Op: api.OpSelf, V: bad, Name: "z", Kids: []int{0, 5, -1}}}, integer(4), vars, "4")
	holdTree(t, api.Expr{{Op: api.OpLit, V: integer(2)}, {Op: api.OpNeg, V: bad, Name: "z", Kids: []int{0}}}, bad, vars, "-2")
}

// P10.1: and, or, not, if

func TestAndOr(t *testing.T) {
	holdAll(t,
		"true and true", "true", "true and false", "false", "false and true", "false", "false and false", "false",
		"true or true", "true", "true or false", "true", "false or true", "true", "false or false", "false",
		"null and true", "null", "true and null", "null", "null and null", "null", "false and null", "false", "null and false", "false",
		"null or true", "true", "true or null", "true", "null or null", "null", "false or null", "null", "null or false", "null",
		"?n and ?f", "false", "?n or ?b", "true", "?b and ?n", "null",
	)
}

func TestWhatAndOrAsk(t *testing.T) {
	for _, x := range []string{"1", "?i", "1.5", `"true"`, `""`, "#true"} {
		holdAll(t,
			x+" and true", "!kind", x+" and false", "!kind", x+" or true", "!kind", x+" and ?z", "!kind", x+" or ?z", "!kind",
			"true and "+x, "!kind", "false or "+x, "!kind", "null and "+x, "!kind", "null or "+x, "!kind",
			"false and "+x, "false", "true or "+x, "true", "?f and "+x, "false", "?b or "+x, "true",
			"not "+x, "!kind",
		)
	}
	for _, x := range []struct{ text, e string }{{"1 / 0 = 1", "!div"}, {"?z", "!scope"}, {"?bad", "!arg"}, {"1 < true", "!kind"}, {"?most + 1 = 1", "!over"}} {
		holdAll(t,
			"true and "+x.text, x.e, "null and "+x.text, x.e, "false or "+x.text, x.e, "null or "+x.text, x.e,
			"false and "+x.text, "false", "true or "+x.text, "true",
			x.text+" and true", x.e, x.text+" and false", x.e, x.text+" or true", x.e, x.text+" or 1", x.e, x.text+" and 1", x.e,
			"not ("+x.text+")", x.e,
			"(false and "+x.text+") or true", "true", "false and "+x.text+" or "+x.text, x.e, "true or "+x.text+" and 1", "true",
			"not (true or "+x.text+")", "false",
		)
	}
	holdAll(t, "?z and ?bad", "!scope", "?bad and ?z", "!arg", "?z or ?bad", "!scope", "?bad or ?z", "!arg", "null and ?bad and ?z", "!arg", "null or ?z or ?bad", "!scope")
}

func TestNot(t *testing.T) {
	holdAll(t, "not true", "false", "not false", "true", "not null", "null", "not ?n", "null", "not not ?b", "true", "not (?n = 1)", "null", "not ?z", "!scope", "not ?d", "!kind")
}

func TestIf(t *testing.T) {
	holdAll(t,
		"if(true, 1, 2)", "1", "if(false, 1, 2)", "2", "if(null, 1, 2)", "null", "if(?b, ?s, ?y)", `"Abc"`, "if(?f, ?s, ?y)", "#abc", "if(?n, ?s, ?y)", "null",
		"if(true, null, 2)", "null", "if(false, 1, null)", "null", "if(?i > 5, \"x\", 1 / 0)", `"x"`, "if(?i < 5, 1 / 0, 3)", "3", "if(?n < 5, 1 / 0, ?z)", "null",
		"if(true, 1 / 0, 2)", "!div", "if(false, 1, ?z)", "!scope", "if(true, ?z, 1 / 0)", "!scope", "if(false, ?z, 1 / 0)", "!div",
		"if(1, 1, 2)", "!kind", "if(\"true\", ?z, ?z)", "!kind", "if(#true, 1, 2)", "!kind", "if(0.0, 1, 2)", "!kind", "if(?z, 1, 2)", "!scope", "if(1 / 0 = 1, ?z, ?z)", "!div", "if(?bad, 1, 2)", "!arg",
		"if(if(null, true, true), 1, 2)", "null", "if(not false, if(false, ?z, 4), ?z)", "4", "if(true, 1, 2) + 1", "2", "if(?b, true, 1) and false", "false",
	)
}

// P10.1: = and <>

func TestEquals(t *testing.T) {
	for _, x := range []struct{ a, b, equal string }{
		{"1", "1", "true"}, {"1", "2", "false"}, {"1", "1.0", "true"}, {"1.5", "1", "false"}, {"1.5", "1.5", "true"}, {"?most", "?mostd", "false"}, {"?most", "?most", "true"}, {"?least", "?leastd", "false"},
		{`"a"`, `"a"`, "true"}, {`"a"`, `"A"`, "false"}, {`""`, "?e", "true"}, {`"ab"`, `"a"`, "false"}, {"true", "true", "true"}, {"true", "false", "false"}, {"?b", "true", "true"}, {"#a", "#a", "true"}, {"#a", "#b", "false"},
		{"1", `"1"`, "!kind"}, {"1", "true", "!kind"}, {"0", "false", "!kind"}, {"1.0", "#a", "!kind"}, {"#a", `"a"`, "!kind"}, {"true", "#true", "!kind"}, {`"true"`, "true", "!kind"}, {"?y", "?s", "!kind"},
		{"?n", "1", "null"}, {"?n", "?n", "null"}, {"?n", `"a"`, "null"}, {"?n", "true", "null"}, {"?n", "#a", "null"}, {"?n", "1.5", "null"}, {"-null", "1", "null"}, {"1 + null", "?n", "null"}, {"if(null, 1, 1)", "1", "null"}, {"max(null)", "?n", "null"},
		{"null", "null", "true"}, {"null", "?n", "true"}, {"null", "-null", "true"}, {"null", "1 + null", "true"}, {"null", "if(null, 1, 1)", "true"}, {"(null)", "?n", "true"},
		{"null", "1", "false"}, {"null", "0", "false"}, {"null", "2.5", "false"}, {"null", `""`, "false"}, {"null", "false", "false"}, {"null", "true", "false"}, {"null", "#null", "false"}, {"null", "?i", "false"}, {"null", "?e", "false"},
		{"1 / 0", "1", "!div"}, {"?z", "null", "!scope"}, {"?bad", "?n", "!arg"}, {"1 / 0", "true", "!div"}, {"?bad", "null", "!arg"},
	} {
		differ := map[string]string{"true": "false", "false": "true"}[x.equal]
		if differ == "" {
			differ = x.equal
		}
		holdAll(t, x.a+" = "+x.b, x.equal, x.b+" = "+x.a, x.equal, x.a+" <> "+x.b, differ, x.b+" <> "+x.a, differ)
	}
	holdAll(t, "1 / 0 = ?z", "!div", "?z = 1 / 0", "!scope", "1 / 0 <> ?bad", "!div", "?bad <> 1 / 0", "!arg")
}

// An OpLit of Null is what the node is, not what it tells; what is no node ahead is none.
func TestEqualsOfNull(t *testing.T) {
	lit := func(v api.Value) api.Node { return api.Node{Op: api.OpLit, V: v} }
	for _, x := range []struct {
		kids      []int
		equal, ne string
	}{
		{[]int{0, 0}, "true", "false"}, {[]int{0, 1}, "false", "true"}, {[]int{1, 0}, "false", "true"}, {[]int{0, 2}, "true", "false"}, {[]int{2, 0}, "true", "false"},
		{[]int{2, 2}, "null", "null"}, {[]int{2, 1}, "null", "null"}, {[]int{1, 2}, "null", "null"},
		{nil, "null", "null"}, {[]int{}, "null", "null"}, {[]int{0}, "true", "false"}, {[]int{1}, "null", "null"}, {[]int{-1, 0}, "true", "false"}, {[]int{0, -1}, "true", "false"}, {[]int{-1, 1}, "null", "null"}, {[]int{1, -1}, "null", "null"},
		// 3 is itself, 4 a literal null behind it: neither is a node ahead
		{[]int{3, 1}, "null", "null"}, {[]int{4, 1}, "null", "null"}, {[]int{1, 4}, "null", "null"}, {[]int{4, 4}, "null", "null"}, {[]int{4, 0}, "true", "false"}, {[]int{0, 4}, "true", "false"}, {[]int{5, 6}, "null", "null"}, {[]int{least, greatest}, "null", "null"},
		{[]int{1, 1, 0}, "true", "false"}, {[]int{1, 2, 0, 0}, "null", "null"},
	} {
		for op, want := range map[uint8]string{api.OpEq: x.equal, api.OpNe: x.ne} {
			tree := api.Expr{lit(null()), lit(integer(1)), {Op: api.OpVar, Name: "n"}, {Op: op, Kids: x.kids}, lit(null()), {Op: api.OpIf, Kids: []int{6, 3, 3}}, {Op: api.OpMax, Kids: []int{3}}}
			holdTree(t, tree[:4], null(), usual(), want)
			// the same, asked from behind the literal
			tree[5] = api.Node{Op: api.OpOr, Kids: []int{3, 3}}
			holdTree(t, tree[:6], null(), usual(), want)
		}
	}
	holdTree(t, api.Expr{lit(api.Value{N: 1}), lit(null()), {Op: api.OpEq, Kids: []int{0, 1}}}, null(), nil, "!arg")
	holdTree(t, api.Expr{lit(api.Value{S: "a"}), lit(null()), {Op: api.OpNe, Kids: []int{1, 0}}}, null(), nil, "!arg")
	holdTree(t, api.Expr{{Op: api.OpVar, Name: "v"}, lit(null()), {Op: api.OpEq, Kids: []int{1, 0}}}, null(), []api.Binding{{Name: "v", V: api.Value{N: 1}}}, "!arg")
}

// P10.1: <, <=, >, >=

func TestOrders(t *testing.T) {
	for _, x := range []struct {
		a, b string
		c    byte // which sign is so
	}{
		{"1", "2", '<'}, {"2", "2", '='}, {"3", "2", '>'}, {"-1", "1", '<'}, {"1", "1.5", '<'}, {"1.5", "1", '>'}, {"1", "1.0", '='}, {"1.0", "1", '='}, {"1.5", "1.5", '='}, {"1.4", "1.5", '<'}, {"0.0", "-0.5", '>'},
		{"?most", "?mostd", '>'}, {"?mostd", "?most", '<'}, {"?least", "?leastd", '<'}, {"?leastd", "?least", '>'}, {"?most", "?most", '='}, {"?least", "?most", '<'}, {"?leastd", "?mostd", '<'},
		{`"a"`, `"b"`, '<'}, {`"a"`, `"a"`, '='}, {`"a"`, `"A"`, '>'}, {`""`, `"a"`, '<'}, {`""`, "?e", '='}, {`"ab"`, `"a"`, '>'}, {`"10"`, `"9"`, '<'}, {"?s", `"Abd"`, '<'},
	} {
		for sign, so := range map[string]string{"<": "<", "<=": "<=", ">": ">", ">=": ">="} {
			hold(t, x.a+" "+sign+" "+x.b, vtext.Text(value.Truth(strings.IndexByte(so, x.c) >= 0)))
		}
	}
	for _, sign := range []string{"<", "<=", ">", ">="} {
		for _, x := range []struct{ a, b, want string }{
			{"null", "null", "null"}, {"?n", "1", "null"}, {"?n", "1.5", "null"}, {"?n", `"a"`, "null"}, {"null", "1", "null"}, {"null", `""`, "null"}, {"-null", "?n", "null"}, {"?n", "?most", "null"},
			{"null", "true", "!kind"}, {"?n", "false", "!kind"}, {"null", "#a", "!kind"}, {"?n", "?y", "!kind"}, {"1", `"1"`, "!kind"}, {"1.5", `"a"`, "!kind"}, {"true", "true", "!kind"}, {"false", "true", "!kind"}, {"#a", "#b", "!kind"}, {"#a", `"a"`, "!kind"}, {"1", "true", "!kind"}, {"1.5", "#a", "!kind"}, {`"a"`, "true", "!kind"}, {"#a", "1", "!kind"},
			{"1 / 0", "1", "!div"}, {"?z", "true", "!scope"}, {"?bad", "null", "!arg"}, {"1 / 0", "#a", "!div"},
		} {
			holdAll(t, x.a+" "+sign+" "+x.b, x.want, x.b+" "+sign+" "+x.a, x.want)
		}
		holdAll(t, "1 / 0 "+sign+" ?z", "!div", "?z "+sign+" 1 / 0", "!scope")
	}
}
