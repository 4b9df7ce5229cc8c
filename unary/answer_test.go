package unary

import (
	"math"
	"math/rand"
	"slices"
	"testing"

	"witan/api"
	"witan/eval"
	"witan/vtext"
)

func integer(n int64) api.Value { return api.Value{Kind: api.Int, N: n} }

func truth(n int64) api.Value { return api.Value{Kind: api.Bool, N: n} }

// usual is a binding of each kind; z is not bound.
func usual() []api.Binding {
	return []api.Binding{
		{Name: "n"}, {Name: "i", V: integer(4)}, {Name: "d", V: api.Value{Kind: api.Dec, N: 25000}}, {Name: "s", V: api.Value{Kind: api.Str, S: "b"}}, {Name: "b", V: truth(1)}, {Name: "f", V: truth(0)}, {Name: "y", V: api.Value{Kind: api.Sym, S: "a"}},
		{Name: "bad", V: truth(2)}, {Name: "i", V: integer(5)},
	}
}

// selves are values of each kind, and two that may not be.
func selves() []api.Value {
	l := []api.Value{truth(2), {N: 1}}
	for _, s := range []string{"null", "0", "4", "5", "-1", "9223372036854775807", "2.5", "4.0", "-0.5", `""`, `"b"`, `"c"`, "true", "false", "#a", "#b"} {
		v, _ := vtext.Parse(s)
		l = append(l, v)
	}
	return l
}

var allSelves = selves()

// shown is an answer as the tests here write it.
func shown(v api.Value, e api.Errno) string {
	if e == api.OK {
		return vtext.Text(v)
	}
	s := "!" + map[api.Errno]string{api.ErrArg: "arg", api.ErrKind: "kind", api.ErrOver: "over", api.ErrDiv: "div", api.ErrScope: "scope"}[e]
	if v != (api.Value{}) {
		s += " beside " + vtext.Text(v)
	}
	return s
}

// holdTests asks that x has an answer for self, and that it passes with true alone.
func holdTests(t *testing.T, x api.Tests, self api.Value, want string) {
	t.Helper()
	if got := shown(Value(x, self, usual())); got != want {
		t.Errorf("Value(%.300v, %v) = %s; want %s", x, self, got, want)
	}
	if got := Pass(x, self, usual()); got != (want == "true") {
		t.Errorf("Pass(%.300v, %v) = %v; it is %s", x, self, got, want)
	}
}

// holdValue asks it of a text, and self's text.
func holdValue(t *testing.T, s, self, want string) {
	t.Helper()
	v, e := vtext.Parse(self)
	if e != api.OK {
		t.Fatalf("no value: %q", self)
	}
	if got := shown(Value(read(t, s), v, usual())); got != want {
		t.Errorf("Value(%q, %s) = %s; want %s", s, self, got, want)
	}
	holdTests(t, read(t, s), v, want)
}

// P11.4: the chapter's examples

func TestExamples(t *testing.T) {
	for _, x := range [][3]string{{"> 3, null", "true", "true"}, {"[1 .. 5)", "false", "null"}, {"not(5, 6)", "false", "null"}, {"-", "true", "true"}} {
		holdValue(t, x[0], "5", x[1])
		holdValue(t, x[0], "null", x[2])
	}
}

// P11.4: answers of single tests

func TestAnswers(t *testing.T) {
	for _, x := range [][3]string{
		// test, self, answer
		{"5", "5", "true"}, {"5", "4", "false"}, {"5", "5.0", "true"}, {"5.0", "5", "true"}, {"5", "null", "null"}, {"5", "\"5\"", "!kind"}, {"= 5", "5", "true"},
		{"null", "5", "false"}, {"null", "null", "true"}, {"= null", "null", "true"}, {"(null)", "#a", "false"}, {"?n", "null", "null"}, {"?n", "5", "null"}, {"-null", "null", "null"}, {"if(true, null, 1)", "null", "null"}, {"not(null)", "1", "true"}, {"not(null)", "null", "false"}, {"< null", "null", "null"}, {"< null", "1", "null"}, {"[null .. null]", "null", "null"}, {"> null", "true", "!kind"},
		{"\"b\"", "\"b\"", "true"}, {"\"b\"", "\"c\"", "false"}, {"true", "true", "true"}, {"true", "false", "false"}, {"#a", "#a", "true"}, {"#a", "#b", "false"}, {"#a", "\"a\"", "!kind"}, {"true", "1", "!kind"},
		{"< 4", "3", "true"}, {"< 4", "4", "false"}, {"< 4", "5", "false"}, {"<= 4", "3", "true"}, {"<= 4", "4", "true"}, {"<= 4", "5", "false"}, {"> 4", "3", "false"}, {"> 4", "4", "false"}, {"> 4", "5", "true"}, {">= 4", "3", "false"}, {">= 4", "4", "true"}, {">= 4", "5", "true"},
		{"> ?i", "5", "true"}, {"> ?i", "4", "false"}, {"< 1", "null", "null"}, {"< 1", "#a", "!kind"}, {"< true", "false", "!kind"}, {"< \"b\"", "\"a\"", "true"}, {"> 2.5", "2", "false"}, {"> 2.5", "3", "true"},
		{"[1 .. 5]", "1", "true"}, {"[1 .. 5]", "5", "true"}, {"[1 .. 5]", "0", "false"}, {"[1 .. 5]", "6", "false"}, {"[1 .. 5]", "3", "true"}, {"(1 .. 5]", "1", "false"}, {"(1 .. 5]", "5", "true"}, {"(1 .. 5]", "2", "true"}, {"[1 .. 5)", "1", "true"}, {"[1 .. 5)", "5", "false"}, {"(1 .. 5)", "1", "false"}, {"(1 .. 5)", "5", "false"}, {"(1 .. 5)", "3", "true"}, {"[5 .. 1]", "3", "false"}, {"[\"a\" .. \"c\")", "\"b\"", "true"}, {"[1 .. 5]", "null", "null"}, {"[1 .. 5]", "1.5", "true"},
		{"not(5)", "5", "false"}, {"not(5)", "4", "true"}, {"not(5)", "null", "null"}, {"not(5)", "#a", "!kind"}, {"not(not(5))", "5", "true"}, {"not(-)", "5", "false"}, {"not(-)", "null", "false"}, {"not([1 .. 3])", "2", "false"}, {"not([1 .. 3])", "4", "true"},
		{"-", "#a", "true"}, {"-", "null", "true"},
		// ? is self in expressions, too.
		{"? + 0", "4", "true"}, {"? + 1", "4", "false"}, {"?", "4", "true"}, {"?", "null", "null"}, {"> ? - 1", "4", "true"}, {"[? .. ?]", "4", "true"}, {"(? .. ?]", "4", "false"}, {"[? .. ?)", "4", "false"}, {"mod(?, 2) = 0", "4", "!kind"}, {"not ?", "true", "false"}, {"[1 .. ? * 2]", "4", "true"},
	} {
		holdValue(t, x[0], x[1], x[2])
	}
}

// P11.4: lists, and errors at each place

func TestListsAndErrors(t *testing.T) {
	for _, x := range [][3]string{
		{"4, 5", "4", "true"}, {"4, 5", "5", "true"}, {"4, 5", "6", "false"}, {"4, 5", "null", "null"}, {"4, null", "null", "true"}, {"null, 4", "null", "true"}, {"null, 4", "5", "false"}, {"?n, 4", "4", "true"}, {"?n, 4", "5", "null"}, {"4, ?n", "5", "null"}, {"1, 2, 3, 4", "4", "true"}, {"1, 2, 3, 4", "5", "false"}, {"1, ?n, 3", "4", "null"}, {"1, ?n, 3", "3", "true"}, {"-, ?n", "1", "true"}, {"?n, -", "1", "true"},
		// An error: those ahead of it may end it, those behind may not.
		{"4, 1 / 0", "4", "true"}, {"4, 1 / 0", "5", "!div"}, {"1 / 0, 4", "4", "!div"}, {"?n, 1 / 0", "4", "!div"}, {"?n, 1 / 0, 4", "4", "!div"}, {"4, ?z, 1 / 0", "4", "true"}, {"5, ?z, 1 / 0", "4", "!scope"}, {"5, 1 / 0, ?z", "4", "!div"}, {"5, #a, 4", "4", "!kind"}, {"-, ?z", "4", "true"}, {"?z, -", "4", "!scope"}, {"5, 4, ?z, 1 / 0", "4", "true"}, {"5, 6, ?bad", "4", "!arg"},
		{"1 / 0", "4", "!div"}, {"< 1 / 0", "4", "!div"}, {"> ?z", "4", "!scope"}, {"9223372036854775807 + 1", "4", "!over"}, {"?bad", "4", "!arg"}, {"not(1 / 0)", "4", "!div"}, {"not(4, 1 / 0)", "4", "false"}, {"not(not(?z))", "4", "!scope"}, {"not(1 / 0), -", "4", "!div"}, {"-, not(1 / 0)", "4", "true"},
		// A range: its lower end may end it.
		{"[1 / 0 .. 5]", "4", "!div"}, {"[5 .. 1 / 0]", "4", "false"}, {"[4 .. 1 / 0]", "4", "!div"}, {"(4 .. 1 / 0]", "4", "false"}, {"[?n .. 1 / 0]", "4", "!div"}, {"[?n .. 3]", "4", "false"}, {"[?n .. 5]", "4", "null"}, {"[5 .. ?n]", "4", "false"}, {"[3 .. ?n]", "4", "null"}, {"[?z .. 1 / 0]", "4", "!scope"}, {"[1 / 0 .. ?z]", "4", "!div"}, {"[#a .. ?z]", "4", "!kind"}, {"[3 .. #a]", "4", "!kind"}, {"[5 .. #a]", "4", "false"}, {"[1 .. ?z]", "null", "!scope"},
	} {
		holdValue(t, x[0], x[1], x[2])
	}
	// The first of a name is the one that is bound, and of no bindings none is.
	holdValue(t, "?i", "4", "true")
	if v, e := Value(read(t, "?i"), integer(4), nil); v != (api.Value{}) || e != api.ErrScope {
		t.Errorf("Value = %v, %d", v, e)
	}
	// A self that may not be is an error where it is asked, ahead of others.
	for _, bad := range allSelves[:2] {
		holdTests(t, read(t, "-"), bad, "true")
		holdTests(t, read(t, "?z"), bad, "!arg")
		holdTests(t, read(t, "null"), bad, "!arg")
		holdTests(t, read(t, "[?z .. 1]"), bad, "!arg")
		holdTests(t, read(t, "-, 1"), bad, "true")
		holdTests(t, read(t, "1, -"), bad, "!arg")
	}
}

// P11.4: what a comparison answers is layer 10's answer of ? and the expression.

func TestComparisonsOfAllKinds(t *testing.T) {
	parts := []string{"null", "?n", "4", "?i", "2.5", "4.0", "\"b\"", "?s", "true", "?f", "#a", "?y", "?z", "1 / 0", "?bad", "?", "? = 4", "not (true or false)", "-1", "1 + null", "?b or 1 / 0 = 1"}
	asked := func(s string, self api.Value) string {
		v, e := eval.Value(tree(t, s), self, usual())
		return shown(v, e)
	}
	for _, self := range allSelves {
		for _, a := range parts {
			for _, sign := range []string{"=", "<", "<=", ">", ">="} {
				holdTests(t, read(t, sign+" "+a), self, asked("? "+sign+" ("+a+")", self))
			}
			for _, b := range parts {
				holdTests(t, read(t, "["+a+" .. "+b+"]"), self, asked("? >= ("+a+") and ? <= ("+b+")", self))
				holdTests(t, read(t, "("+a+" .. "+b+"]"), self, asked("? > ("+a+") and ? <= ("+b+")", self))
				holdTests(t, read(t, "["+a+" .. "+b+")"), self, asked("? >= ("+a+") and ? < ("+b+")", self))
				holdTests(t, read(t, "("+a+" .. "+b+")"), self, asked("? > ("+a+") and ? < ("+b+")", self))
				holdTests(t, read(t, "< "+a+", > "+b), self, asked("? < ("+a+") or ? > ("+b+")", self))
				holdTests(t, read(t, "not(= "+a+", = "+b+"), <= "+a), self, asked("not (? = ("+a+") or ? = ("+b+")) or ? <= ("+a+")", self))
			}
		}
	}
}

// P11.4: any nodes. The model makes one expression of all of them.

// joinedTree is an expression that grows: nodes, and what numbers tests have in it.
type joinedTree struct {
	x     api.Expr
	tests []int
}

func (j *joinedTree) add(op uint8, kids ...int) int {
	j.x = append(j.x, api.Node{Op: op, Kids: kids})
	return len(j.x) - 1
}

// splice adds an expression, of which all kids that are no nodes ahead become -1.
func (j *joinedTree) splice(x api.Expr) int {
	first := len(j.x)
	for i, n := range x {
		n.Kids = slices.Clone(n.Kids)
		for k, kid := range n.Kids {
			if n.Kids[k] = -1; 0 <= kid && kid < i {
				n.Kids[k] = first + kid
			}
		}
		j.x = append(j.x, n)
	}
	if len(x) == 0 {
		return -1
	}
	return len(j.x) - 1
}

func (j *joinedTree) held(op uint8, x api.Expr) int {
	return j.add(op, j.add(api.OpSelf), j.splice(x)) // self's node is asked first, wherever it stands
}

func (j *joinedTree) kid(n api.Test, i int) int {
	if i < len(n.Kids) && 0 <= n.Kids[i] && n.Kids[i] < len(j.tests) {
		return j.tests[n.Kids[i]]
	}
	return -1
}

func modelValue(t api.Tests, self api.Value, vars []api.Binding) (api.Value, api.Errno) {
	j := &joinedTree{}
	j.add(0)
	for _, n := range t {
		var at int
		switch n.Op {
		case 1:
			at = j.add(api.OpEq, j.add(api.OpLit), j.add(api.OpLit))
		case 2:
			at = j.held(api.OpEq, n.A)
		case 3:
			at = j.held(api.OpLt, n.A)
		case 4:
			at = j.held(api.OpLe, n.A)
		case 5:
			at = j.held(api.OpGt, n.A)
		case 6:
			at = j.held(api.OpGe, n.A)
		case 7:
			low, high := api.OpGe, api.OpLe
			if n.Low {
				low = api.OpGt
			}
			if n.High {
				high = api.OpLt
			}
			at = j.add(api.OpAnd, j.held(low, n.A), j.held(high, n.B))
		case 8:
			at = j.add(api.OpNot, j.kid(n, 0))
		case 9:
			at = j.kid(n, 0)
			for i := range n.Kids {
				at = j.add(api.OpOr, at, j.kid(n, i)) // the first one or itself is itself
			}
			if len(n.Kids) == 0 {
				at = j.add(api.OpNot)
			}
		default:
			at = j.add(0)
		}
		j.tests = append(j.tests, at)
	}
	return eval.Value(j.x, self, vars)
}

// anyExpr makes nodes of any ops.
func (m maker) anyExpr() api.Expr {
	var x api.Expr
	for range m.Intn(6) {
		n := api.Node{Op: uint8(m.Intn(28)), Name: m.pick("i", "n", "b", "z", "bad")}
		if m.Intn(3) == 0 {
			n.V = allSelves[m.Intn(18)]
		}
		if m.Intn(3) == 0 {
			n.Op = m.pick("\x01", "\x02", "\x03")[0]
		}
		for range m.Intn(4) {
			n.Kids = append(n.Kids, m.Intn(len(x)+3)-1)
		}
		x = append(x, n)
	}
	return x
}

func (m maker) anyTests() api.Tests {
	var x api.Tests
	for range 1 + m.Intn(8) {
		n := api.Test{Op: uint8(1 + m.Intn(9)), Low: m.Intn(2) == 0, High: m.Intn(2) == 0}
		if m.Intn(20) == 0 {
			n.Op = uint8(m.Intn(256))
		}
		n.A, n.B = m.anyExpr(), m.anyExpr()
		if e, ok := map[int]string{0: "4", 1: "?i", 2: "null", 3: "5"}[m.Intn(8)]; ok {
			n.A = trees[e]
		}
		if e, ok := map[int]string{0: "4", 1: "?i", 2: "null", 3: "5"}[m.Intn(8)]; ok {
			n.B = trees[e]
		}
		for range m.Intn(4) {
			n.Kids = append(n.Kids, m.Intn(len(x)+2)-1)
		}
		x = append(x, n)
	}
	return x
}

var trees = map[string]api.Expr{
	"4": {{Op: api.OpLit, V: api.Value{Kind: api.Int, N: 4}}}, "5": {{Op: api.OpLit, V: api.Value{Kind: api.Int, N: 5}}}, "null": {{Op: api.OpLit}}, "?i": {{Op: api.OpVar, Name: "i"}},
}

func TestAnyNodes(t *testing.T) {
	m := maker{rand.New(rand.NewSource(14))}
	l := allSelves
	counts := map[string]int{}
	for i := range 30000 {
		x := m.anyTests()
		if i%3 == 0 {
			var e api.Errno
			if x, _, e = Read(m.tests(4)); e != api.OK {
				continue
			}
		}
		self := l[m.Intn(len(l))]
		want := shown(modelValue(x, self, usual()))
		holdTests(t, x, self, want)
		counts[want]++
		if t.Failed() {
			return
		}
	}
	for _, s := range []string{"true", "false", "null", "!arg", "!kind", "!scope"} {
		if counts[s] < 50 {
			t.Errorf("%v", counts)
		}
	}
}

// P11.4: the edges

func TestNoNodes(t *testing.T) {
	for _, self := range allSelves {
		holdTests(t, nil, self, "!arg")
		holdTests(t, api.Tests{}, self, "!arg")
	}
}

func TestOpsThatAreNone(t *testing.T) {
	four := trees["4"]
	for op := range 256 {
		if 1 <= op && op <= 9 {
			continue
		}
		none := api.Test{Op: uint8(op), A: four, B: four, Kids: []int{0, 0}}
		yes, no := api.Test{Op: 1}, api.Test{Op: 2, A: trees["5"]}
		holdTests(t, api.Tests{none}, integer(4), "!arg")
		holdTests(t, api.Tests{yes, none}, integer(4), "!arg")
		holdTests(t, api.Tests{none, yes}, integer(4), "true")
		holdTests(t, api.Tests{none, {Op: 8, Kids: []int{0}}}, integer(4), "!arg")
		holdTests(t, api.Tests{none, yes, {Op: 9, Kids: []int{1, 0}}}, integer(4), "true")
		holdTests(t, api.Tests{none, yes, {Op: 9, Kids: []int{0, 1}}}, integer(4), "!arg")
		holdTests(t, api.Tests{none, no, {Op: 9, Kids: []int{1, 0}}}, integer(4), "!arg")
	}
}

// Kids that lack, that are no node ahead, or that are too many.
func TestKids(t *testing.T) {
	// 0: true, 1: false, 2: an error; the node itself is 3.
	ahead := api.Tests{{Op: 1}, {Op: 2, A: trees["5"]}, {Op: 2, A: api.Expr{{Op: api.OpVar, Name: "z"}}}}
	for _, x := range []struct {
		op   uint8
		kids []int
		want string
	}{
		{8, nil, "null"}, {8, []int{}, "null"}, {8, []int{0}, "false"}, {8, []int{1}, "true"}, {8, []int{2}, "!scope"}, {8, []int{3}, "null"}, {8, []int{4}, "null"}, {8, []int{-1}, "null"}, {8, []int{math.MaxInt}, "null"}, {8, []int{math.MinInt}, "null"}, {8, []int{0, 1}, "false"}, {8, []int{1, 2}, "true"}, {8, []int{1, -1, 77}, "true"}, {8, []int{3, 1}, "null"},
		{9, nil, "null"}, {9, []int{}, "null"}, {9, []int{0}, "true"}, {9, []int{1}, "false"}, {9, []int{2}, "!scope"}, {9, []int{3}, "null"}, {9, []int{-1}, "null"}, {9, []int{0, 1}, "true"}, {9, []int{1, 0}, "true"}, {9, []int{1, 1}, "false"}, {9, []int{3, 0}, "true"}, {9, []int{3, 1}, "null"}, {9, []int{1, 3}, "null"}, {9, []int{1, -1, 1}, "null"}, {9, []int{math.MaxInt, 2}, "!scope"}, {9, []int{math.MinInt, 0, 2}, "true"}, {9, []int{2, 0}, "!scope"}, {9, []int{1, 1, 1, 1, 1, 0, 2}, "true"}, {9, []int{4, 5, 6}, "null"},
		{1, []int{1}, "true"}, {2, []int{0}, "null"},
	} {
		holdTests(t, append(slices.Clone(ahead), api.Test{Op: x.op, Kids: x.kids}), integer(4), x.want)
	}
}

// Expressions that are none, and flags where none are asked.
func TestOddExpressions(t *testing.T) {
	four, five := trees["4"], trees["5"]
	for _, x := range []struct {
		n    api.Test
		want string
	}{
		{api.Test{Op: 2}, "null"}, {api.Test{Op: 3}, "null"}, {api.Test{Op: 6, A: api.Expr{}}, "null"}, {api.Test{Op: 7}, "null"}, {api.Test{Op: 7, A: four}, "null"}, {api.Test{Op: 7, A: five}, "false"}, {api.Test{Op: 7, B: five}, "null"}, {api.Test{Op: 7, B: trees["null"]}, "null"},
		{api.Test{Op: 2, A: four, B: five, Low: true, High: true, Kids: []int{0}}, "true"}, {api.Test{Op: 4, A: four, High: true}, "true"}, {api.Test{Op: 6, A: four, Low: true}, "true"}, {api.Test{Op: 1, A: five, B: api.Expr{{}}, Low: true}, "true"},
		{api.Test{Op: 2, A: api.Expr{{}}}, "!arg"}, {api.Test{Op: 2, A: api.Expr{{Op: 99}, four[0]}}, "true"}, {api.Test{Op: 2, A: api.Expr{five[0], four[0]}}, "true"}, {api.Test{Op: 2, A: api.Expr{{Op: 17, Kids: []int{0}}}}, "null"}, {api.Test{Op: 2, A: api.Expr{{Op: 17, Kids: []int{1}}, {Op: 17, Kids: []int{2}}}}, "null"}, {api.Test{Op: 2, A: api.Expr{four[0], {Op: 18, Kids: []int{0, 5}}}}, "true"}, {api.Test{Op: 2, A: api.Expr{{Op: 18, Kids: []int{1}}}}, "null"},
		{api.Test{Op: 7, A: four, B: api.Expr{five[0], {Op: 18, Kids: []int{0}}}}, "true"}, {api.Test{Op: 7, A: api.Expr{five[0], four[0]}, B: api.Expr{{Op: 18, Kids: []int{1}}}}, "null"}, {api.Test{Op: 7, A: four, B: api.Expr{{Op: 18, Kids: []int{-1}}}}, "null"},
	} {
		holdTests(t, api.Tests{x.n}, integer(4), x.want)
	}
	// An empty expression is no literal null.
	holdTests(t, api.Tests{{Op: 2}}, api.Value{}, "null")
	holdTests(t, api.Tests{{Op: 2, A: trees["null"]}}, api.Value{}, "true")
	holdTests(t, api.Tests{{Op: 2, A: api.Expr{{Op: 1, V: api.Value{N: 1}}}}}, api.Value{}, "!arg")
}

// Very many nodes, kids and bindings end, and in little time.
func TestVeryMany(t *testing.T) {
	nots := api.Tests{{Op: 1}}
	for len(nots) < 200001 {
		nots = append(nots, api.Test{Op: 8, Kids: []int{len(nots) - 1}})
	}
	holdTests(t, nots, integer(4), "true")
	holdTests(t, nots[:200000], integer(4), "false")
	holdTests(t, api.Tests{{Op: 2, A: trees["5"]}, {Op: 9, Kids: make([]int, 200000)}}, integer(4), "false")
	x := api.Tests{{Op: 2, A: trees["5"]}}
	for len(x) < 2000 {
		k := len(x) - 1
		x = append(x, api.Test{Op: 9, Kids: []int{k, k, k, k}}) // asked 4 times each
	}
	holdTests(t, x, integer(4), "false")
	long := api.Expr{trees["4"][0]}
	for len(long) < 200000 {
		long = append(long, api.Node{Op: api.OpAbs, Kids: []int{len(long) - 1}})
	}
	holdTests(t, api.Tests{{Op: 2, A: long}, {Op: 7, A: long, B: long}, {Op: 9, Kids: []int{0, 1}}}, integer(4), "true")
	vars := append(slices.Repeat([]api.Binding{{Name: "a"}}, 200000), api.Binding{Name: "c", V: integer(4)})
	if !Pass(read(t, "[?c .. ?c]"), integer(4), vars) {
		t.Error("the last binding is none")
	}
	for _, f := range []func(x api.Tests){
		func(x api.Tests) { Text(x) }, func(x api.Tests) { May(x) }, func(x api.Tests) { Check(x, api.Scope{}) }, func(x api.Tests) { Names(x) }, func(x api.Tests) { Var(x) }, func(x api.Tests) { Same(x, cloneAll(x)) },
	} {
		f(x)
		f(nots)
		f(api.Tests{{Op: 2, A: long}})
		f(api.Tests{{Op: 7, A: trees["4"], B: long}, {Op: 8, Kids: make([]int, 200000)}})
	}
}

// P1: no call panics, whatever tests are made of.
func TestNoCallPanics(t *testing.T) {
	m := maker{rand.New(rand.NewSource(15))}
	for range 8000 {
		x := m.anyTests()
		in := api.Scope{Self: uint8(m.Intn(8)), Vars: scope(0).Vars[:m.Intn(7)]}
		s, e := Text(x)
		want, ok := modelText(x)
		if s != want || (e == api.OK) != ok || May(x) != ok {
			t.Errorf("Text(%v) = %q, %d; want %q", x, s, e, want)
		}
		if p, e := Check(x, in); !ok && (p != (api.Place{}) || e != api.ErrForm) {
			t.Errorf("Check(%v) = %v, %d", x, p, e)
		}
		if l := Names(x); !ok && len(l) > 0 {
			t.Errorf("Names(%v) = %q", x, l)
		}
		Var(x)
		Same(x, m.anyTests())
		Value(x, allSelves[m.Intn(18)], nil)
	}
}

// Value changes nothing, and answers the same each time.
func TestValueChangesNothing(t *testing.T) {
	x := read(t, "not([?i + 1 .. 5), > ?), ?z, min(1, 2)")
	y, vars := cloneAll(x), usual()
	// Room behind a list is its owner's.
	for i := range x {
		if len(x[i].A) > 0 {
			x[i].A = append(append(x[i].A, api.Node{Name: "room"}), api.Node{Name: "room"})[:len(x[i].A)]
		}
	}
	first := shown(Value(x, integer(4), vars))
	for range 3 {
		if s := shown(Value(x, integer(4), vars)); s != first {
			t.Errorf("%s, then %s", first, s)
		}
	}
	if !isEqual(x, y) || !slices.Equal(vars, usual()) {
		t.Errorf("%v, %v", x, vars)
	}
	for i := range x {
		if l := x[i].A; len(l) > 0 && (l[:len(l)+2][len(l)].Name != "room" || l[:len(l)+2][len(l)+1].Name != "room") {
			t.Error("what stands behind a list was written")
		}
	}
}

// What passes TestNot does not pass its test.
func TestNotAndItsTest(t *testing.T) {
	m := maker{rand.New(rand.NewSource(16))}
	for range 5000 {
		s := m.tests(2)
		x, _, e := Read(s)
		y, _, f := Read("not(" + s + ")")
		if e != api.OK || f != api.OK {
			continue
		}
		for _, self := range allSelves {
			if Pass(x, self, usual()) && Pass(y, self, usual()) {
				t.Errorf("%v passes %q and not of it", self, s)
			}
		}
	}
}
