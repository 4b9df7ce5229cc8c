package unary

import (
	"math/rand"
	"slices"
	"strings"
	"testing"

	"witan/api"
	"witan/etype"
)

// letters are those of the six kinds.
const letters = "nidsby"

// scope has a variable of each kind, named by its letter, two whose kinds are
// none, and a self.
func scope(self uint8) api.Scope {
	s := api.Scope{Self: self}
	for i := range letters {
		s.Vars = append(s.Vars, api.Slot{Name: letters[i : i+1], Kind: uint8(i)})
	}
	return api.Scope{Vars: append(s.Vars, api.Slot{Name: "x", Kind: 6}, api.Slot{Name: "xx", Kind: 255}), Self: self}
}

// holdCheck asks that tests of that text are checked so: at that column; 0 of no place.
func holdCheck(t *testing.T, s string, in api.Scope, col int, want api.Errno) {
	t.Helper()
	p := at(1, col)
	if col == 0 {
		p = api.Place{}
	}
	if q, e := Check(read(t, s), in); q != p || e != want {
		t.Errorf("Check(%.300q, %v) = %v, %d; want %v, %d", s, in, q, e, p, want)
	}
}

// shapes are expressions of each kind, by letters, without self.
var shapes = map[byte][]string{
	'n': {"null", "?n", "-null", "if(?b, null, ?n)"},
	'i': {"1", "?i", "-?i", "mod(7, 2)", "length(?s)", "1 + null", "(1)"},
	'd': {"1.5", "?d", "-1.0", "1 + ?d", "max(?i, ?d)"},
	's': {`"a"`, "?s", "upper(?s)", "if(?b, null, ?s)"},
	'b': {"true", "?b", "not ?b", "?i = 1", "not (?b or true)", "1 < 2"},
	'y': {"#a", "?y", "if(true, ?y, null)"},
}

// pairs are the kinds of self and of what it is held against, as the chapters have them.
const (
	equals  = "in ii id dn di dd sn ss bn bb yn yy"
	ordered = "in ii id dn di dd sn ss"
)

func goes(pairs string, self uint8, with byte) bool {
	return self > 0 && int(self) < len(letters) && strings.Contains(pairs, string([]byte{letters[self], with}))
}

// P11.3: what each comparison asks, of each kind of self and of none

func TestKindsThatAreCompared(t *testing.T) {
	for self := range 256 {
		in := scope(uint8(self))
		for c, l := range shapes {
			if self > 7 && self < 255 {
				l = l[:1]
			}
			for _, x := range l {
				for _, sign := range []string{"", "= ", "< ", "<= ", "> ", ">= "} {
					pairs := ordered
					if sign == "" || sign == "= " {
						pairs = equals
					}
					if sign == "" && strings.HasPrefix(x, "not (") {
						continue
					}
					col, e := 1, api.ErrKind
					if goes(pairs, uint8(self), c) {
						col, e = 0, api.OK
					}
					holdCheck(t, sign+x, in, col, e)
					if col > 0 {
						col = 8
					}
					holdCheck(t, "-, not("+sign+x+")", in, col, e)
				}
			}
		}
	}
}

func TestKindsOfRanges(t *testing.T) {
	for self := range 8 {
		in := scope(uint8(self))
		for c, l := range shapes {
			for d, r := range shapes {
				for i := range max(len(l), len(r)) {
					a, b := l[i%len(l)], r[i%len(r)]
					col, e := 1, api.ErrKind
					if goes(ordered, uint8(self), c) && goes(ordered, uint8(self), d) {
						col, e = 0, api.OK
					}
					for _, s := range []string{"[" + a + " .. " + b + "]", "(" + a + " .. " + b + "]", "[" + a + " .. " + b + ")", "(" + a + " .. " + b + ")"} {
						holdCheck(t, s, in, col, e)
					}
				}
			}
		}
	}
}

// Self stands in expressions, too.
func TestSelfInExpressions(t *testing.T) {
	for self := range 8 {
		in := scope(uint8(self))
		want, e := 0, api.OK
		switch {
		case self == 0:
			want, e = 1, api.ErrScope
		case self > 5:
			want, e = 1, api.ErrKind
		}
		holdCheck(t, "?", in, want, e)
		if want > 0 {
			want = 3
		}
		if e == api.OK && (self == 4 || self == 5) {
			want, e = 1, api.ErrKind
		}
		holdCheck(t, "> ?", in, want, e)
		if e == api.OK || want == 1 {
			holdCheck(t, "[? .. ?]", in, want, e)
		} else {
			holdCheck(t, "[? .. ?]", in, 2, e)
		}
	}
	holdCheck(t, "mod(?, 2) = 0", scope(api.Int), 1, api.ErrKind)
	holdCheck(t, "mod(?, 2) = 0", scope(api.Bool), 1, api.ErrKind)
	holdCheck(t, "not ?", scope(api.Bool), 0, api.OK)
	holdCheck(t, "? + 0", scope(api.Int), 0, api.OK)
	holdCheck(t, "? + 0", scope(api.Str), 3, api.ErrKind)
}

// Nothing is compared in -.
func TestAnyIsAlwaysTaken(t *testing.T) {
	for self := range 256 {
		for _, s := range []string{"-", "not(-)", "-, -", "not(-, not(-))"} {
			holdCheck(t, s, api.Scope{Self: uint8(self)}, 0, api.OK)
			holdCheck(t, s, scope(uint8(self)), 0, api.OK)
		}
	}
}

// P11.3: which error comes first

func TestWhatComesFirst(t *testing.T) {
	in := scope(api.Int)
	for _, x := range []struct {
		s   string
		col int
		e   api.Errno
	}{
		{"> ?i, 1.5, null", 0, api.OK}, {"> ?i, \"x\"", 7, api.ErrKind}, {"?zz", 1, api.ErrScope}, {"[1 .. true]", 1, api.ErrKind},
		// Layer 9's error and place.
		{"> ?zz", 3, api.ErrScope}, {"= ?zz", 3, api.ErrScope}, {"(?zz)", 2, api.ErrScope}, {"> ?x", 3, api.ErrKind}, {"?xx", 1, api.ErrKind}, {"1 + true", 3, api.ErrKind}, {"> 1 + true", 5, api.ErrKind}, {"> 1 + (2 + true)", 10, api.ErrKind}, {"-\"x\"", 1, api.ErrKind}, {"> -\"x\"", 3, api.ErrKind}, {"> abs(true)", 3, api.ErrKind},
		{"not(?zz)", 5, api.ErrScope}, {"not(not(1, > ?zz))", 14, api.ErrScope}, {"1, not(2, ?zz)", 11, api.ErrScope},
		// It is told ahead of what self asks.
		{"\"x\" + ?zz", 7, api.ErrScope}, {"upper(?zz)", 7, api.ErrScope}, {"> true and ?zz", 12, api.ErrScope}, {"> true and 1", 8, api.ErrKind},
		// The first test with a fault.
		{"true, ?zz", 1, api.ErrKind}, {"?zz, true", 1, api.ErrScope}, {"1, true, ?zz", 4, api.ErrKind}, {"1, ?zz, true", 4, api.ErrScope}, {"not(true), ?zz", 5, api.ErrKind}, {"not(1), \"a\", true", 9, api.ErrKind}, {"not(1, #a), true", 8, api.ErrKind}, {"-, > true, > ?zz", 4, api.ErrKind},
		// A ahead of B: its error, what self asks of it, and then the like of B.
		{"[?zz .. ?x]", 2, api.ErrScope}, {"[?x .. ?zz]", 2, api.ErrKind}, {"[1 .. ?zz]", 7, api.ErrScope}, {"(1 .. 1 + true)", 9, api.ErrKind}, {"[?zz .. true]", 2, api.ErrScope}, {"[true .. ?zz]", 1, api.ErrKind}, {"[\"a\" .. 1 + true]", 1, api.ErrKind}, {"[1 .. true]", 1, api.ErrKind}, {"[null .. null]", 0, api.OK}, {"not((true .. ?zz])", 5, api.ErrKind}, {"[1 .. 2.5), [1 .. #a]", 13, api.ErrKind},
	} {
		holdCheck(t, x.s, in, x.col, x.e)
	}
	// Of no self the expression's error comes first, too.
	none := scope(api.Null)
	holdCheck(t, "null", none, 1, api.ErrKind)
	holdCheck(t, "  null", none, 3, api.ErrKind)
	holdCheck(t, "> ?zz", none, 3, api.ErrScope)
	holdCheck(t, "> 1 + ?", none, 7, api.ErrScope)
	holdCheck(t, "[?zz .. 1]", none, 2, api.ErrScope)
	holdCheck(t, "[1 .. ?zz]", none, 1, api.ErrKind)
	holdCheck(t, "-, 1", none, 4, api.ErrKind)
	holdCheck(t, "1", scope(6), 1, api.ErrKind)
	holdCheck(t, "> 1 + ?", scope(6), 7, api.ErrKind)
	if p, e := Check(read(t, "1,\n not(2,\n  > true)"), in); p != at(3, 3) || e != api.ErrKind {
		t.Errorf("Check = %v, %d", p, e)
	}
}

// A name stands for the first variable that has it.
func TestVariablesThatAreThereTwice(t *testing.T) {
	two := api.Scope{Vars: []api.Slot{{Name: "a", Kind: api.Str}, {Name: "a", Kind: api.Int}}, Self: api.Int}
	holdCheck(t, "?a", two, 1, api.ErrKind)
	two.Vars[0].Name = "b"
	holdCheck(t, "?a", two, 0, api.OK)
}

// P11.3: tests that may not be, whatever stands in them

func TestCheckOfNone(t *testing.T) {
	eq := api.Test{Op: api.TestEq, A: tree(t, "true"), At: at(1, 1)}
	for _, x := range []api.Tests{
		nil, {}, {{}}, {{Op: 10, At: at(1, 1)}}, {{Op: 2, At: at(1, 1)}}, {eq, eq}, {eq, {Op: 8, At: at(1, 1)}}, {eq, {Op: 9, Kids: []int{0}}}, {{Op: 2, A: tree(t, "?zz"), B: tree(t, "?zz"), At: at(1, 1)}}, {{Op: 7, A: tree(t, "?zz"), At: at(1, 1)}}, {eq, {Op: 1, Low: true, At: at(1, 1)}},
		{{Op: 2, A: api.Expr{{Op: 2, Name: "A", At: at(1, 1)}}, At: at(1, 1)}},
	} {
		for _, in := range []api.Scope{{}, scope(api.Int), scope(api.Bool), scope(99)} {
			if p, e := Check(x, in); p != (api.Place{}) || e != api.ErrForm {
				t.Errorf("Check(%v) = %v, %d", x, p, e)
			}
		}
		if l := Names(x); len(l) > 0 {
			t.Errorf("Names(%v) = %q", x, l)
		}
	}
}

// modelCheck tells, test by test, what is met first.
func modelCheck(x api.Tests, in api.Scope) (api.Place, api.Errno) {
	for _, n := range x {
		pairs := ordered
		if n.Op == 2 {
			pairs = equals
		}
		if n.Op == 1 || n.Op > 7 {
			continue
		}
		kind, p, e := etype.Of(n.A, in)
		if e == 0 && !goes(pairs, in.Self, letters[kind]) {
			p, e = n.At, 8
		}
		if e == 0 && n.Op == 7 {
			if kind, p, e = etype.Of(n.B, in); e == 0 && !goes(pairs, in.Self, letters[kind]) {
				p, e = n.At, 8
			}
		}
		if e != 0 {
			return p, e
		}
	}
	return api.Place{}, 0
}

// Tests by chance, and tests some faults away.
func TestChecksByChance(t *testing.T) {
	m := maker{rand.New(rand.NewSource(13))}
	counts := map[api.Errno]int{}
	for i := range 6000 {
		x, _, e := Read(m.tests(3))
		if e != api.OK {
			continue
		}
		if i%2 > 0 {
			x = m.fault(cloneAll(x))
		}
		in := scope(uint8(m.Intn(7)))
		in.Vars = append(in.Vars, api.Slot{Name: "a", Kind: uint8(m.Intn(6))}, api.Slot{Name: "b", Kind: uint8(m.Intn(6))})
		p, f := modelCheck(x, in)
		if _, ok := modelText(x); !ok {
			p, f = api.Place{}, 4
		}
		if q, e := Check(x, in); q != p || e != f {
			t.Errorf("Check(%v, %v) = %v, %d; want %v, %d", x, in, q, e, p, f)
			return
		}
		counts[f]++
	}
	for _, e := range []api.Errno{0, 4, 8, 11} {
		if counts[e] < 100 {
			t.Errorf("%v", counts)
		}
	}
}

// Check changes nothing.
func TestCheckChangesNothing(t *testing.T) {
	x, in := read(t, "not([1 .. ?i), > 5), ?zz"), scope(api.Int)
	y, vars := cloneAll(x), slices.Clone(in.Vars)
	Check(x, in)
	Names(x)
	if !isEqual(x, y) || !slices.Equal(vars, in.Vars) {
		t.Errorf("%v, %v", x, in)
	}
}

// P11.3: Names

func TestNames(t *testing.T) {
	for _, x := range [][2]string{
		{"-", ""}, {"1", ""}, {"?", ""}, {"?a", "a"}, {"= ?a", "a"}, {"> ?a", "a"}, {"?b + ?a", "b a"}, {"?a + ?a", "a"}, {"[?b .. ?a]", "b a"}, {"(?a .. ?a)", "a"}, {"[1 .. ?a]", "a"}, {"[?a .. 1]", "a"}, {"[?c + ?a .. ?b + ?c)", "c a b"}, {"not(?a)", "a"}, {"not(?b, ?a)", "b a"}, {"?c, ?b, ?a", "c b a"}, {"?a, ?b, ?a", "a b"}, {"> ?z, [?y .. ?x], not(?w, < ?y), -, <= ?v, >= ?u", "z y x w v u"}, {"not(not(?b)), ?a", "b a"}, {"\"?a\"", ""}, {"#a", ""}, {"= not (?p or ?q)", "p q"}, {"?abcdefghijkl", "abcdefghijkl"}, {"min(?c, ?b, ?a, ?b)", "c b a"}, {"1, ?b, 2", "b"},
	} {
		if l := Names(read(t, x[0])); strings.Join(l, " ") != x[1] || len(l) != len(strings.Fields(x[1])) {
			t.Errorf("Names(%q) = %q; want %q", x[0], l, x[1])
		}
	}
	x := read(t, "?b, ?a")
	l := Names(x)
	l[0] = "zz"
	if again := Names(x); !slices.Equal(again, []string{"b", "a"}) {
		t.Errorf("Names = %q", again)
	}
}

// P11.3: Var

func TestVar(t *testing.T) {
	for _, x := range [][2]string{{"?a", "a"}, {"= ?a", "a"}, {"(?a)", "a"}, {"= ((?a))", "a"}, {"?abcdefghijkl", "abcdefghijkl"}, {" ?not ;", "not"}} {
		if n, ok := Var(read(t, x[0])); n != x[1] || !ok {
			t.Errorf("Var(%q) = %q, %v; want %q", x[0], n, ok, x[1])
		}
	}
	for _, s := range []string{"-", "1", "?", "null", "< ?a", "<= ?a", "> ?a", ">= ?a", "[?a .. ?a]", "(?a .. 1)", "not(?a)", "?a, ?a", "?a, -", "?a + 0", "-?a", "not ?a", "abs(?a)", "?a = ?a", "? = ?a", "#a", "\"?a\"", "not(not(?a))"} {
		if n, ok := Var(read(t, s)); n != "" || ok {
			t.Errorf("Var(%q) = %q, %v", s, n, ok)
		}
	}
	a := api.Expr{{Op: api.OpVar, Name: "a"}}
	for _, x := range []api.Tests{nil, {}, {{}}, {{Op: 2}}, {{A: a}}, {{Op: 1, A: a}}, {{Op: 2, B: a}}, {{Op: 7, A: a}}, {{Op: 8, A: a}}, {{Op: 9, A: a}}, {{Op: 10, A: a}}, {{Op: 2, A: api.Expr{a[0], a[0]}}}, {{Op: 2, A: a}, {Op: 2, A: a}}, {{Op: 2, A: api.Expr{{Op: 1, Name: "a"}}}}, {{Op: 2, A: api.Expr{{Op: 3, Name: "a"}}}}, {{Op: 2, A: api.Expr{{Name: "a"}}}}} {
		if n, ok := Var(x); n != "" || ok {
			t.Errorf("Var(%v) = %q, %v", x, n, ok)
		}
	}
}
