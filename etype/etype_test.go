package etype

import (
	"math"
	"slices"
	"strings"
	"testing"

	"witan/api"
	"witan/eprint"
	"witan/expr"
)

// all six kinds, and a letter for each.
const letters = "nidsby"

func kindOfLetter(c byte) uint8 { return uint8(strings.IndexByte(letters, c)) }

// full is a scope with a variable of each kind, named by its letter, and a self.
func full(self uint8) api.Scope {
	s := api.Scope{Self: self}
	for i := range letters {
		s.Vars = append(s.Vars, api.Slot{Name: letters[i : i+1], Kind: uint8(i)})
	}
	return s
}

// scope is variables by names and letters ("a:i"), and self's kind.
func scope(self uint8, vars ...string) api.Scope {
	s := api.Scope{Self: self}
	for _, v := range vars {
		name, c, _ := strings.Cut(v, ":")
		s.Vars = append(s.Vars, api.Slot{Name: name, Kind: kindOfLetter(c[0])})
	}
	return s
}

// read is the tree of a text that layer 7 takes.
func read(t *testing.T, s string) api.Expr {
	t.Helper()
	x, at, e := expr.Read(s)
	if e != api.OK {
		t.Fatalf("Read(%.300q): %v, %d", s, at, e)
	}
	return x
}

// hold asks that x has that kind.
func hold(t *testing.T, text string, s api.Scope, want uint8) {
	t.Helper()
	if kind, at, e := Of(read(t, text), s); kind != want || at != (api.Place{}) || e != api.OK {
		t.Errorf("Of(%.200q, %.200v) = %d, %v, %d; want %d", text, s, kind, at, e, want)
	}
}

// refuse asks that x has no kind, because of what is at that place.
func refuse(t *testing.T, text string, s api.Scope, line, col int, want api.Errno) {
	t.Helper()
	if kind, at, e := Of(read(t, text), s); kind != 0 || at != (api.Place{Line: line, Col: col}) || e != want {
		t.Errorf("Of(%.200q, %.200v) = %d, %v, %d; want none, at %d %d: %d", text, s, kind, at, e, line, col, want)
	}
}

// asked holds text against a letter: its kind, or "." of a fault in its last
// node, whose place is at the byte with that number.
func asked(t *testing.T, text string, s api.Scope, letter byte, col int) {
	t.Helper()
	if letter == '.' {
		refuse(t, text, s, 1, col, api.ErrKind)
		return
	}
	hold(t, text, s, kindOfLetter(letter))
}

// shapes are texts of each kind, by letters: a literal, a variable, a call or
// an operator, none of which needs parentheses; no self.
var shapes = map[byte][]string{
	'n': {"null", "?n", "-null", "abs(?n)", "if(?b, null, ?n)"},
	'i': {"1", "?i", "-?i", "abs(1)", "max(null, ?i)", "mod(null, null)", "length(null)", "length(?s)", "if(null, 7, ?n)", "if(true, null, 1)"},
	'd': {"1.5", "?d", "-1.0", "abs(?d)", "min(1, ?d, null)", "if(?b, ?n, 2.5)"},
	's': {`"x"`, "?s", "upper(?s)", "upper(null)", `if(?n, "a", ?s)`},
	'b': {"true", "false", "?b", "contains(null, null)", "starts(?s, ?s)", "if(?b, ?b, null)"},
	'y': {"#x", "?y", "if(null, #a, ?y)", "if(true, null, #b)"},
}

// P9.1: the chapter's examples

func TestExamples(t *testing.T) {
	hold(t, "?a + 1.5", scope(0, "a:i"), api.Dec)
	hold(t, `null = "x"`, api.Scope{}, api.Bool)
	refuse(t, `1 < "x"`, api.Scope{}, 1, 3, api.ErrKind)
	refuse(t, "? > 1", api.Scope{}, 1, 1, api.ErrScope)
}

// P9.1: atoms

func TestLiterals(t *testing.T) {
	for _, x := range []struct {
		text string
		kind uint8
	}{
		{"null", api.Null}, {"0", api.Int}, {"1", api.Int}, {"9223372036854775807", api.Int}, {"0.0", api.Dec}, {"1.5", api.Dec}, {"922337203685477.5807", api.Dec},
		{`""`, api.Str}, {`"x"`, api.Str}, {`"?z"`, api.Str}, {"true", api.Bool}, {"false", api.Bool}, {"#x", api.Sym}, {"#null", api.Sym}, {"(((#x)))", api.Sym},
	} {
		hold(t, x.text, api.Scope{}, x.kind)
		hold(t, x.text, full(api.Str), x.kind)
		hold(t, x.text, api.Scope{Vars: []api.Slot{{Name: "x", Kind: 6}, {Name: "null", Kind: 255}}, Self: 99}, x.kind)
	}
}

func TestVariables(t *testing.T) {
	for i := range letters {
		hold(t, "?"+letters[i:i+1], full(0), uint8(i))
		hold(t, "?abcdefghijkl", api.Scope{Vars: []api.Slot{{Name: "abcdefghijkl", Kind: uint8(i)}}}, uint8(i))
		hold(t, "?v", api.Scope{Vars: []api.Slot{{Name: "w", Kind: 9}, {Name: "v", Kind: uint8(i)}}, Self: 9}, uint8(i))
	}
	for kind := 6; kind < 256; kind++ {
		s := api.Scope{Vars: []api.Slot{{Name: "v", Kind: uint8(kind)}, {Name: "w", Kind: api.Int}}, Self: api.Int}
		refuse(t, "?v", s, 1, 1, api.ErrKind)
		refuse(t, "?w + ?v", s, 1, 6, api.ErrKind)
		refuse(t, "? = (?v)", s, 1, 6, api.ErrKind)
		hold(t, "?w + 1", s, api.Int)
		hold(t, "?", s, api.Int)
	}
	for _, s := range []api.Scope{{}, {Vars: []api.Slot{}}, {Self: api.Int}, {Self: 77}, scope(1, "a:i"), scope(1, "vv:i", "w:i", "V:i", "?v:i", " v:i", "v :i", ":i")} {
		refuse(t, "?v", s, 1, 1, api.ErrScope)
		refuse(t, "not ?v", s, 1, 5, api.ErrScope)
	}
}

func TestVariablesThatAreThereTwice(t *testing.T) {
	hold(t, "?a", scope(0, "a:i", "a:s"), api.Int)
	hold(t, "?a", scope(0, "a:s", "a:i"), api.Str)
	hold(t, "?a", scope(0, "b:s", "a:n", "a:i", "b:i", "a:d"), api.Null)
	hold(t, "?a = ?b", scope(0, "b:s", "a:s", "a:i", "b:i"), api.Bool)
	refuse(t, "?a = ?b", scope(0, "b:s", "a:i", "a:s", "b:i"), 1, 4, api.ErrKind)
	hold(t, "?a", api.Scope{Vars: []api.Slot{{Name: "a", Kind: api.Sym}, {Name: "a", Kind: 6}}}, api.Sym)
	refuse(t, "?a", api.Scope{Vars: []api.Slot{{Name: "a", Kind: 6}, {Name: "a", Kind: api.Sym}}}, 1, 1, api.ErrKind)
}

func TestManyVariables(t *testing.T) {
	var s api.Scope
	for range 20000 {
		s.Vars = append(s.Vars, api.Slot{Name: "a", Kind: api.Int}, api.Slot{Name: strings.Repeat("x", 40), Kind: 200})
	}
	s.Vars = append(s.Vars, api.Slot{Name: "z", Kind: api.Dec})
	hold(t, "?a + ?z", s, api.Dec)
	refuse(t, "?a + ?y", s, 1, 6, api.ErrScope)
}

func TestSelf(t *testing.T) {
	for kind := uint8(1); kind < 6; kind++ {
		hold(t, "?", api.Scope{Self: kind}, kind)
		hold(t, "(?)", full(kind), kind)
		hold(t, "? <> ?", api.Scope{Self: kind}, api.Bool)
	}
	for kind := 6; kind < 256; kind++ {
		refuse(t, "?", api.Scope{Self: uint8(kind)}, 1, 1, api.ErrKind)
		refuse(t, "null = ?", full(uint8(kind)), 1, 8, api.ErrKind)
		hold(t, "?i", full(uint8(kind)), api.Int)
	}
	refuse(t, "?", api.Scope{}, 1, 1, api.ErrScope)
	refuse(t, "?", api.Scope{Vars: []api.Slot{{Name: "", Kind: api.Int}, {Name: "?", Kind: api.Int}, {Name: "self", Kind: api.Int}}}, 1, 1, api.ErrScope)
	refuse(t, "null = ?", full(0), 1, 8, api.ErrScope)
	hold(t, "?i", full(0), api.Int)
}

// P9.1: each op, with each kind at each of its expressions. The kinds of the
// first one go down, those of the second one to the right, by letters.

func TestOpsOfTwo(t *testing.T) {
	truths := []string{"b...b.", "......", "......", "......", "b...b.", "......"}
	equals := []string{"bbbbbb", "bbb...", "bbb...", "b..b..", "b...b.", "b....b"}
	orders := []string{"bbbb..", "bbb...", "bbb...", "b..b..", "......", "......"}
	sums := []string{"nid...", "iid...", "ddd...", "......", "......", "......"}
	rests := []string{"ii....", "ii....", "......", "......", "......", "......"}
	heads := []string{"b..b..", "......", "......", "b..b..", "......", "......"}
	for _, x := range []struct {
		form string // X and Y: the expressions; ! ahead of where the node is
		want []string
	}{
		{"X !or Y", truths}, {"X !and Y", truths},
		{"X != Y", equals}, {"X !<> Y", equals},
		{"X !< Y", orders}, {"X !<= Y", orders}, {"X !> Y", orders}, {"X !>= Y", orders},
		{"X !+ Y", sums}, {"X !- Y", sums}, {"X !* Y", sums}, {"X !/ Y", sums}, {"!min(X, Y)", sums}, {"!max(X, Y)", sums},
		{"!mod(X, Y)", rests},
		{"!contains(X, Y)", heads}, {"!starts(X, Y)", heads},
	} {
		for a := range letters {
			for b := range letters {
				askTwo(t, x.form, a, b, x.want[a][b])
			}
		}
	}
}

// askTwo asks a form of all texts of two kinds.
func askTwo(t *testing.T, form string, a, b int, want byte) {
	t.Helper()
	for _, x := range shapes[letters[a]] {
		for _, y := range shapes[letters[b]] {
			head, tail, _ := strings.Cut(strings.NewReplacer("X", x, "Y", y).Replace(form), "!")
			asked(t, head+tail, full(0), want, len(head)+1)
		}
	}
}

func TestOpsOfOne(t *testing.T) {
	for _, x := range []struct{ form, want string }{
		{"not X", "b...b."}, {"-X", "nid..."}, {"abs(X)", "nid..."}, {"min(X)", "nid..."}, {"max(X)", "nid..."},
		{"length(X)", "i..i.."}, {"upper(X)", "s..s.."},
	} {
		for a := range letters {
			for _, s := range shapes[letters[a]] {
				asked(t, strings.Replace(x.form, "X", s, 1), full(0), x.want[a], 1)
			}
			if a > 0 {
				asked(t, strings.Replace(x.form, "X", "?", 1), full(uint8(a)), x.want[a], 1)
				asked(t, strings.Replace(x.form, "X", "?", 1), api.Scope{Self: uint8(a)}, x.want[a], 1)
			}
		}
	}
}

func TestIf(t *testing.T) {
	others := []string{"nidsby", "ii....", "d.d...", "s..s..", "b...b.", "y....y"}
	for first := range letters {
		for a := range letters {
			for b := range letters {
				want := others[a][b]
				if letters[first] != 'b' && letters[first] != 'n' {
					want = '.'
				}
				for _, x := range shapes[letters[first]] {
					for _, y := range shapes[letters[a]] {
						for _, z := range shapes[letters[b]] {
							asked(t, "if("+x+", "+y+", "+z+")", full(0), want, 1)
						}
					}
				}
			}
		}
	}
}

func TestLongCalls(t *testing.T) {
	for _, word := range []string{"min", "max"} {
		for n := 1; n <= 8; n++ {
			hold(t, word+"("+strings.Repeat("?n, ", n-1)+"null)", full(0), api.Null)
			hold(t, word+"("+strings.Repeat("?i, ", n-1)+"1)", full(0), api.Int)
			hold(t, word+"("+strings.Repeat("?d, ", n-1)+"1.5)", full(0), api.Dec)
			for i := range n {
				for at := range letters {
					l := slices.Repeat([]string{"null"}, n)
					l[i] = "?" + letters[at:at+1]
					asked(t, word+"("+strings.Join(l, ", ")+")", full(0), "nid..."[at], 1)
					l = slices.Repeat([]string{"?i"}, n)
					l[i] = "?" + letters[at:at+1]
					want := "iid..."[at]
					if n == 1 {
						want = "nid..."[at]
					}
					asked(t, word+"("+strings.Join(l, ", ")+")", full(0), want, 1)
					l = slices.Repeat([]string{"?d"}, n)
					l[i] = "?" + letters[at:at+1]
					want = "ddd..."[at]
					if n == 1 {
						want = "nid..."[at]
					}
					asked(t, word+"("+strings.Join(l, ", ")+")", full(0), want, 1)
				}
			}
		}
	}
}

// P9.1: which node is told

func TestWhichNodeIsTold(t *testing.T) {
	s := api.Scope{Vars: []api.Slot{{Name: "a", Kind: api.Int}, {Name: "s", Kind: api.Str}, {Name: "w", Kind: 9}}}
	for _, x := range []struct {
		text string
		col  int
		e    api.Errno
	}{
		{"?z + ?w", 1, api.ErrScope}, {"?w + ?z", 1, api.ErrKind}, {"?a + ?z * ?w", 6, api.ErrScope}, {"?a + ?w * ?z", 6, api.ErrKind},
		{"?s + ?z", 6, api.ErrScope}, {"?s + ?w", 6, api.ErrKind}, {"?s + 1 + ?z", 4, api.ErrKind}, {"?z + (?s + 1)", 1, api.ErrScope},
		{"1 + (?s + 1) + ?z", 9, api.ErrKind}, {"1 * (not 2 or ?y)", 6, api.ErrKind}, {"not (?z or 1)", 6, api.ErrScope}, {"not (1 or ?z)", 11, api.ErrScope}, {"not (1 or 2)", 8, api.ErrKind},
		{"? + ?z", 1, api.ErrScope}, {"?z + ?", 1, api.ErrScope}, {"?w + ?", 1, api.ErrKind}, {"? + ?w", 1, api.ErrScope},
		{"1 + ?", 5, api.ErrScope}, {"-?", 2, api.ErrScope}, {"- -?", 4, api.ErrScope}, {"--#a", 2, api.ErrKind}, {"not not 1", 5, api.ErrKind},
		{"if(1, 2, #a)", 1, api.ErrKind}, {"if(1, not 2, #a + ?z)", 7, api.ErrKind}, {"if(?z, not 2, #a + ?z)", 4, api.ErrScope}, {"if(true, 1, #a + ?z)", 18, api.ErrScope},
		{"min(1, 2, #a, upper(3))", 15, api.ErrKind}, {"min(#a, 2, 3, ?z)", 15, api.ErrScope}, {"min(length(1), upper(2))", 5, api.ErrKind}, {"max(1, -#a, ?z)", 8, api.ErrKind},
		{"  ( ( ?z ) )", 7, api.ErrScope}, {"mod(1.5, ?z)", 10, api.ErrScope}, {"mod(1.5, -#a)", 10, api.ErrKind}, {"mod(1, 1.5) = ?z", 1, api.ErrKind}, {"1 = #a and ?z", 3, api.ErrKind},
	} {
		refuse(t, x.text, s, 1, x.col, x.e)
	}
}

func TestPlacesInSeveralLines(t *testing.T) {
	s := scope(0, "a:i", "s:s")
	refuse(t, "?a\n+\n  ?z", s, 3, 3, api.ErrScope)
	refuse(t, "?a\n  + \n ?s", s, 2, 3, api.ErrKind)
	refuse(t, "\n\n ?", s, 3, 2, api.ErrScope)
	refuse(t, "1 ; one\n ; two\n < ; less\n \"x\"", s, 3, 2, api.ErrKind)
	refuse(t, "min(?a,\n    ?a,\n  max(?s,\n 1),\n ?z)", s, 3, 3, api.ErrKind)
	refuse(t, "if\n(true,\n1,\n 2.5)", s, 1, 1, api.ErrKind)
	refuse(t, "true and\nnot\n (1 + 1)", s, 2, 1, api.ErrKind)
	hold(t, "?a\n+\n1.5\n", s, api.Dec)
}

// Places are told as they stand in the nodes, whatever they are.
func TestPlacesOfAnyKind(t *testing.T) {
	for _, at := range []api.Place{{}, {Line: -1, Col: -2}, {Line: math.MaxInt, Col: math.MinInt}, {Line: 7, Col: 0}} {
		x := read(t, `1 < "x"`)
		x[2].At = at
		if kind, got, e := Of(x, api.Scope{}); kind != 0 || got != at || e != api.ErrKind {
			t.Errorf("Of = %d, %v, %d; want 0, %v, %d", kind, got, e, at, api.ErrKind)
		}
		x = read(t, "?z")
		x[0].At = at
		if kind, got, e := Of(x, api.Scope{}); kind != 0 || got != at || e != api.ErrScope {
			t.Errorf("Of = %d, %v, %d; want 0, %v, %d", kind, got, e, at, api.ErrScope)
		}
		x = read(t, "1")
		x[0].At = at
		if kind, got, e := Of(x, api.Scope{}); kind != api.Int || got != (api.Place{}) || e != api.OK {
			t.Errorf("Of = %d, %v, %d; want %d and no place", kind, got, e, api.Int)
		}
	}
}

// P9.1, P9.2: the most nodes and levels

func TestMostNodes(t *testing.T) {
	s := scope(0, "a:i")
	sum := "?a" + strings.Repeat(" + ?a", 29) // 59 nodes
	hold(t, sum, s, api.Int)
	hold(t, "-"+sum, s, api.Int)
	hold(t, sum[:len(sum)-2]+"-1.5", s, api.Dec)
	refuse(t, "-"+sum[:len(sum)-2]+"?b", s, 1, len(sum), api.ErrScope)
	refuse(t, "-"+sum[:len(sum)-2]+"#b", s, 1, len(sum)-2, api.ErrKind)
	x := read(t, "-"+sum)
	if len(x) != 60 {
		t.Fatalf("%d nodes", len(x))
	}
	ofNone(t, append(x, api.Node{Op: api.OpNeg, Kids: []int{59}}))
	hold(t, strings.Repeat("not ", 12)+"?b", scope(0, "b:b"), api.Bool)
	hold(t, strings.Repeat("abs(", 12)+"?a"+strings.Repeat(")", 12), s, api.Int)
	deep := read(t, strings.Repeat("not ", 12)+"?b")
	ofNone(t, append(deep, api.Node{Op: api.OpNot, Kids: []int{12}}))
}

// P9.1, P9.2: expressions that may not be

// ofNone asks that x may not be: no kind, no place, and no names.
func ofNone(t *testing.T, x api.Expr) {
	t.Helper()
	if eprint.May(x) {
		t.Fatalf("May(%.200v)", x)
	}
	for _, s := range []api.Scope{{}, full(api.Int), {Vars: []api.Slot{{Name: "a", Kind: 77}}, Self: 88}} {
		if kind, at, e := Of(x, s); kind != 0 || at != (api.Place{}) || e != api.ErrForm {
			t.Errorf("Of(%.200v) = %d, %v, %d; want none, %d", x, kind, at, e, api.ErrForm)
		}
	}
	if l := Names(x); l != nil {
		t.Errorf("Names(%.200v) = %.200q; want none", x, l)
	}
}

func TestWhatMayNotBe(t *testing.T) {
	one := api.Node{Op: api.OpLit, V: api.Value{Kind: api.Int, N: 1}, At: api.Place{Line: 3, Col: 4}}
	named := func(s string) api.Node { return api.Node{Op: api.OpVar, Name: s, At: api.Place{Line: 1, Col: 2}} }
	node := func(op uint8, kids ...int) api.Node {
		return api.Node{Op: op, Kids: kids, At: api.Place{Line: 5, Col: 6}}
	}
	ofNone(t, nil)
	ofNone(t, api.Expr{})
	for op := 0; op < 256; op++ {
		if op == 0 || op > int(api.OpIf) {
			ofNone(t, api.Expr{node(uint8(op))})
			ofNone(t, api.Expr{one, node(uint8(op), 0)})
			ofNone(t, api.Expr{named("a"), named("a"), node(uint8(op), 0, 1)})
		}
		ofNone(t, api.Expr{node(uint8(op), 0)})
		ofNone(t, api.Expr{named("a"), node(uint8(op), 1)})
		ofNone(t, api.Expr{named("a"), node(uint8(op), -1)})
		ofNone(t, api.Expr{named("a"), node(uint8(op), math.MaxInt, math.MinInt)})
		ofNone(t, api.Expr{named("a"), node(uint8(op), make([]int, 9)...)})
		ofNone(t, api.Expr{named("a"), node(uint8(op), make([]int, 100000)...)})
		ofNone(t, api.Expr{named("a"), one, one, one, node(uint8(op), 1, 2, 3)})
	}
	for _, s := range []string{"", "A", "1", "a b", "?a", "abcdefghijklm", "\xff", strings.Repeat("a", 1<<16)} {
		ofNone(t, api.Expr{named(s)})
		ofNone(t, api.Expr{named("z"), named(s), node(api.OpAdd, 0, 1)})
	}
	for _, v := range []api.Value{{Kind: 6}, {Kind: 255}, {Kind: api.Int, N: -1}, {Kind: api.Dec, N: math.MinInt64}, {Kind: api.Bool, N: 2}, {Kind: api.Null, N: 1}, {Kind: api.Sym}, {Kind: api.Sym, S: "A"}, {Kind: api.Str, S: "\n"}, {Kind: api.Str, S: strings.Repeat("x", 201)}} {
		ofNone(t, api.Expr{{Op: api.OpLit, V: v}})
		ofNone(t, api.Expr{named("z"), {Op: api.OpLit, V: v}, node(api.OpEq, 0, 1)})
	}
	ofNone(t, api.Expr{named("a"), named("b")})
	ofNone(t, api.Expr{named("a"), named("b"), node(api.OpNot, 1)})
	ofNone(t, api.Expr{named("a"), named("b"), node(api.OpSub, 1, 0)})
	ofNone(t, api.Expr{named("a"), node(api.OpSub, 0, 0)})
	ofNone(t, api.Expr{named("a"), node(api.OpSub, 0)})
	ofNone(t, api.Expr{named("a"), node(api.OpNot)})
	ofNone(t, api.Expr{{Op: api.OpVar, Name: "a", V: api.Value{Kind: api.Int}}})
	ofNone(t, api.Expr{{Op: api.OpSelf, Name: "a"}})
	ofNone(t, api.Expr{one, {Op: api.OpNeg, Name: "a", Kids: []int{0}}})
	ofNone(t, slices.Repeat(api.Expr{one}, 100000))
}

// P9.2: names

func holdNames(t *testing.T, text string, want ...string) {
	t.Helper()
	if l := Names(read(t, text)); !slices.Equal(l, want) {
		t.Errorf("Names(%.200q) = %.200q; want %.200q", text, l, want)
	}
}

func TestNames(t *testing.T) {
	holdNames(t, "1")
	holdNames(t, "?")
	holdNames(t, `? + #a * length("?b")`)
	holdNames(t, "?a", "a")
	holdNames(t, "?a + ?a", "a")
	holdNames(t, "?b + ?a + ?b", "b", "a")
	holdNames(t, "?b + ?a * ?c", "b", "a", "c")
	holdNames(t, "?c - (?b - ?a)", "c", "b", "a")
	holdNames(t, "if(?z = ?, min(?y, ?z, ?x), ?aa / ?a)", "z", "y", "x", "aa", "a")
	holdNames(t, "not ?not or ?true and ?null", "not", "true", "null")
	holdNames(t, "?abcdefghijkl = ?abcdefghijk", "abcdefghijkl", "abcdefghijk")
	holdNames(t, "#a = ?b or #b = ?a", "b", "a")
	holdNames(t, "1 + ?a = #a and not ?b", "a", "b")
}

// Names asks nothing of kinds or scopes.
func TestNamesOfWrongKinds(t *testing.T) {
	holdNames(t, `"x" + ?b < upper(1.5) + ?a`, "b", "a")
}

func TestManyNames(t *testing.T) {
	var l, twice []string
	for i := range 15 {
		l = append(l, string(rune('z'-i)))
	}
	for _, s := range append(append([]string{}, l...), l...) {
		twice = append(twice, "?"+s)
	}
	holdNames(t, strings.Join(twice, " + "), l...)
	var all []string
	for i := range 30 {
		all = append(all, "v"+string(rune('a'+(i*7)%26))+string(rune('a'+i/26)))
	}
	holdNames(t, "-?"+strings.Join(all, " - ?"), all...)
}

// P1: nothing that is handed in is changed or kept

func TestWhatIsHandedInStays(t *testing.T) {
	for _, text := range []string{"?a + ?s * 2", "if(?b, ?a, ?a)", "?z", "? = ?a"} {
		x, y := read(t, text), read(t, text)
		s, same := scope(1, "a:i", "s:s", "b:b", "a:d"), scope(1, "a:i", "s:s", "b:b", "a:d")
		kind, at, e := Of(x, s)
		names := Names(x)
		if !slices.EqualFunc(x, y, func(a, b api.Node) bool {
			return a.Op == b.Op && a.V == b.V && a.Name == b.Name && a.At == b.At && slices.Equal(a.Kids, b.Kids)
		}) || !slices.Equal(s.Vars, same.Vars) || s.Self != same.Self {
			t.Errorf("%q: %v, %v; want %v, %v", text, x, s, y, same)
		}
		want := slices.Clone(names)
		for i := range names {
			names[i] = "other"
		}
		k2, a2, e2 := Of(x, s)
		if l := Names(x); k2 != kind || a2 != at || e2 != e || !slices.Equal(l, want) {
			t.Errorf("%q: %d, %v, %d, %q; want %d, %v, %d, %q", text, k2, a2, e2, l, kind, at, e, want)
		}
	}
}
