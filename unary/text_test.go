package unary

import (
	"math"
	"math/rand"
	"slices"
	"strings"
	"testing"

	"witan/api"
	"witan/eprint"
	"witan/lexer"
)

// holdText asks that tests of that text have that text, which is read as them.
func holdText(t *testing.T, s, want string) {
	t.Helper()
	x := read(t, s)
	got, e := Text(x)
	if got != want || e != api.OK || !May(x) {
		t.Errorf("Text(%.300q) = %q, %d, %v; want %q", s, got, e, May(x), want)
	}
	if y := read(t, got); !Same(x, y) {
		t.Errorf("%q was read as %v; want %v", got, y, x)
	}
}

// holdNone asks that x has no text.
func holdNone(t *testing.T, x api.Tests) {
	t.Helper()
	if s, e := Text(x); s != "" || e != api.ErrForm || May(x) {
		t.Errorf("Text(%.300v) = %.300q, %d, %v; want none", x, s, e, May(x))
	}
}

// P11.2: the text of each form

func TestTexts(t *testing.T) {
	for _, x := range [][2]string{
		{"-", "-"}, {" - ", "-"}, {"5", "5"}, {"=5", "5"}, {"= 5", "5"}, {"= (5)", "5"}, {"<5", "< 5"}, {"<=5", "<= 5"}, {">5", "> 5"}, {">=5", ">= 5"}, {">  ( 5 )", "> 5"},
		{"[1..5]", "[1 .. 5]"}, {"(1..5]", "(1 .. 5]"}, {"[1..5)", "[1 .. 5)"}, {"( 1 .. 5 )", "(1 .. 5)"}, {"[(1)..(5)]", "[1 .. 5]"}, {"[-1..--2)", "[-1 .. --2)"}, {"((1 + 2)*3..?)", "((1 + 2) * 3 .. ?)"}, {"[not (true) .. not (true or false)]", "[not true .. not (true or false)]"},
		{"not(5)", "not(5)"}, {"not ( 5 , < 2 )", "not(5, < 2)"}, {"not(-)", "not(-)"}, {"not(not(not(not(5))))", "not(not(not(not(5))))"}, {"not((1..2))", "not((1 .. 2))"}, {"not((1))", "not(1)"}, {"not ((1)*2)", "not(1 * 2)"},
		{"1,2", "1, 2"}, {"1 ,2 , 3", "1, 2, 3"}, {"-,-1,-", "-, -1, -"}, {"= 1, > 2, [3..4], not(5,6), -", "1, > 2, [3 .. 4], not(5, 6), -"},
		{"?a+1.5", "?a + 1.5"}, {"#s", "#s"}, {`"a;\"b"`, `"a;\"b"`}, {"null", "null"}, {"not true", "not true"}, {"not not(true)", "not not true"}, {"mod(?,2)=0", "mod(?, 2) = 0"}, {"= 1 = 2", "1 = 2"}, {"> 1 > 2", "> 1 > 2"}, {"= -1", "-1"}, {"=?", "?"}, {"(1 + 2) * 3", "(1 + 2) * 3"}, {"= (1 + 2) * 3", "(1 + 2) * 3"}, {"if(true, 1, 2)", "if(true, 1, 2)"}, {"- (1 + 2)", "-(1 + 2)"}, {"((not true)) = 1", "(not true) = 1"},
	} {
		holdText(t, x[0], x[1])
	}
}

// P11.2: what begins with not and a parenthesis has its sign, and nothing else.
func TestTextsWithASign(t *testing.T) {
	for _, s := range []string{"not (true or false)", "not (?a and ?b)", "not (true or false) and true", "not (true or false) or ? = 1", "not (?a + 1) * 2 = 3", "not (?a or ?b) = ?", "not (1 = 2) = 3", "not (true or true) and not (true or false)", "not (1 - 2) / 3 > 4 or 5"} {
		holdText(t, "= "+s, "= "+s)
		holdText(t, "1, = "+s+", -", "1, = "+s+", -")
		holdText(t, "not(= "+s+")", "not(= "+s+")")
		holdText(t, "not(= "+s+", = "+s+")", "not(= "+s+", = "+s+")")
		holdText(t, "> "+s, "> "+s)
		holdText(t, "["+s+" .. "+s+")", "["+s+" .. "+s+")")
		holdText(t, "true and "+s, "true and "+s)
		holdText(t, "= not "+s, "not "+s)
		holdText(t, "not "+s, "not "+s)
	}
	for _, x := range [][2]string{
		{"= not (true)", "not true"}, {"= not ((true))", "not true"}, {"= not (1 = 2)", "not 1 = 2"}, {"= not (?a + 1) = 2", "not ?a + 1 = 2"}, {"= not (not true)", "not not true"}, {"= (not (true or false))", "= not (true or false)"}, {"(not (true or false))", "= not (true or false)"}, {"(not (true or false)) and true", "= not (true or false) and true"},
		{"not(true or false)", "not(true or false)"}, {"not (not (true or false))", "not(not(true or false))"}, {"not (= not (true or false))", "not(= not (true or false))"}, {"-(not (true or true))", "-(not (true or true))"}, {"(1 or 2) and 3", "(1 or 2) and 3"}, {"(not (true or false)) = 1", "(not (true or false)) = 1"}, {"abs(not (true or false))", "abs(not (true or false))"},
	} {
		holdText(t, x[0], x[1])
	}
}

// P11.2: a model of which tests may be, from the whole down.

// stands tells at which node tests begin of which the last one is n, with so
// many not open; -1 of none.
func stands(t api.Tests, n, nots int, alone bool) int {
	if n < 0 {
		return -1
	}
	x := t[n]
	if x.Op == 0 || x.Op > 9 || (x.Op == 7) != (len(x.B) > 0) || (x.Op != 7 && (x.Low || x.High)) || (2 <= x.Op && x.Op <= 7) != (len(x.A) > 0) {
		return -1
	}
	if x.Op < 8 {
		if len(x.Kids) > 0 || (len(x.A) > 0 && !eprint.May(x.A)) || (len(x.B) > 0 && !eprint.May(x.B)) {
			return -1
		}
		return n
	}
	if x.Op == 8 {
		if len(x.Kids) != 1 || x.Kids[0] != n-1 || nots == 4 {
			return -1
		}
		return stands(t, n-1, nots+1, true)
	}
	if len(x.Kids) < 2 || !alone {
		return -1
	}
	first := n
	for i := len(x.Kids) - 1; i >= 0; i-- {
		if x.Kids[i] != first-1 {
			return -1
		}
		if first = stands(t, first-1, nots, false); first < 0 {
			return -1
		}
	}
	return first
}

// spelt tells the text of what stands, from the whole down.
func spelt(t api.Tests, n int) string {
	x := t[n]
	a, _ := eprint.Text(x.A)
	b, _ := eprint.Text(x.B)
	var l []string
	for _, k := range x.Kids {
		l = append(l, spelt(t, k))
	}
	switch x.Op {
	case 1:
		return "-"
	case 2:
		if w, _, _ := lexer.Lex(a); len(w) > 1 && w[0].Text == "not" && w[1].Text == "(" {
			return "= " + a
		}
		return a
	case 7:
		s := "[" + a + " .. " + b
		if x.Low {
			s = "(" + s[1:]
		}
		if x.High {
			return s + ")"
		}
		return s + "]"
	case 8:
		return "not(" + l[0] + ")"
	case 9:
		return strings.Join(l, ", ")
	}
	return []string{"< ", "<= ", "> ", ">= "}[x.Op-3] + a
}

// modelText tells x's text; false, if it has none.
func modelText(x api.Tests) (string, bool) {
	if len(x) > 30 || stands(x, len(x)-1, 0, true) != 0 {
		return "", false
	}
	s := spelt(x, len(x)-1)
	if len(s) > 1<<16 {
		return "", false
	}
	return s, true
}

// holdTextModel holds Text and May against it, and tells whether there is one.
func holdTextModel(t *testing.T, x api.Tests) bool {
	t.Helper()
	want, ok := modelText(x)
	s, e := Text(x)
	if s != want || (e == api.OK) != ok || (!ok && e != api.ErrForm) || May(x) != ok {
		t.Errorf("Text(%v) = %q, %d, %v; want %q, %v", x, s, e, May(x), want, ok)
	}
	return ok
}

// cloneAll tells tests that share nothing with x.
func cloneAll(x api.Tests) api.Tests {
	tree := func(l api.Expr) api.Expr {
		l = slices.Clone(l)
		for i := range l {
			l[i].Kids = slices.Clone(l[i].Kids)
		}
		return l
	}
	x = slices.Clone(x)
	for i := range x {
		x[i].A, x[i].B, x[i].Kids = tree(x[i].A), tree(x[i].B), slices.Clone(x[i].Kids)
	}
	return x
}

// fault puts a fault into some node.
func (m maker) fault(x api.Tests) api.Tests {
	i := m.Intn(len(x))
	n := &x[i]
	switch m.Intn(14) {
	case 0:
		n.Op = uint8(m.Intn(11))
	case 1:
		n.A, n.B = n.B, n.A
	case 2:
		n.A = nil
	case 3:
		n.B = x[m.Intn(len(x))].A
	case 4:
		n.Low = !n.Low
	case 5:
		n.High = !n.High
	case 6:
		n.Kids = append(n.Kids, m.Intn(len(x)+2)-1)
	case 7:
		if len(n.Kids) > 0 {
			n.Kids[m.Intn(len(n.Kids))] += m.Intn(3) - 1
		}
	case 8:
		n.Kids = n.Kids[:max(0, len(n.Kids)-1)]
	case 9:
		j := m.Intn(len(x))
		x[i], x[j] = x[j], x[i]
	case 10:
		x = append(x[:i:i], x[i+1:]...)
	case 11:
		x = append(x, x[i])
	case 12:
		if len(n.A) > 0 {
			b := &n.A[m.Intn(len(n.A))]
			b.Op = uint8(m.Intn(28))
		}
	case 13:
		if len(n.A) > 0 {
			b := &n.A[m.Intn(len(n.A))]
			b.V, b.Name = api.Value{Kind: uint8(m.Intn(7)), N: int64(m.Intn(3) - 1), S: m.pick("", "a", "A")}, m.pick("", "a", "A", "abcdefghijklm")
		}
	}
	return x
}

// Tests by chance, and tests some faults away.
func TestTextsByChance(t *testing.T) {
	m := maker{rand.New(rand.NewSource(12))}
	good, bad := 0, 0
	for range 5000 {
		x, _, e := Read(m.tests(4))
		if e != api.OK {
			continue
		}
		holdTextModel(t, x)
		if s, _ := Text(x); !Same(read(t, s), x) {
			t.Errorf("%q is read as other tests than %v", s, x)
		}
		for range 6 {
			if len(x) == 0 {
				break
			}
			if x = m.fault(cloneAll(x)); holdTextModel(t, x) {
				good++
				if s, _ := Text(x); !Same(read(t, s), x) {
					t.Errorf("%q is read as other tests than %v", s, x)
				}
			} else {
				bad++
			}
		}
		if t.Failed() {
			return
		}
	}
	if good < 2000 || bad < 2000 {
		t.Errorf("%d good, %d bad", good, bad)
	}
}

// P11.2: tests that may not be

func TestNoTexts(t *testing.T) {
	one := tree(t, "1")
	eq := api.Test{Op: api.TestEq, A: one}
	in := api.Test{Op: api.TestIn, A: one, B: one}
	not := func(kids ...int) api.Test { return api.Test{Op: api.TestNot, Kids: kids} }
	list := func(kids ...int) api.Test { return api.Test{Op: api.TestList, Kids: kids} }
	any := api.Test{Op: api.TestAny}
	for _, x := range []api.Tests{
		nil, {}, {{}}, {{Op: 10, A: one}}, {{Op: 255}}, {{A: one}},
		{{Op: 1, A: one}}, {{Op: 1, B: one}}, {{Op: 1, Low: true}}, {{Op: 1, High: true}}, {{Op: 1, Kids: []int{0}}},
		{{Op: 2}}, {{Op: 2, A: one, B: one}}, {{Op: 2, B: one}}, {{Op: 2, A: one, Low: true}}, {{Op: 2, A: one, High: true}}, {{Op: 2, A: one, Kids: []int{0}}}, {{Op: 3}}, {{Op: 4, A: one, B: one}}, {{Op: 5, A: one, High: true}}, {{Op: 6, A: one, Kids: []int{-1}}},
		{{Op: 7}}, {{Op: 7, A: one}}, {{Op: 7, B: one}}, {{Op: 7, A: one, B: one, Kids: []int{0}}},
		{not()}, {not(0)}, {not(-1)}, {eq, not()}, {eq, not(1)}, {eq, not(-1)}, {eq, not(0, 0)}, {eq, eq, not(1)}, {eq, eq, not(0, 1)}, {eq, not(0), not(0)}, {eq, {Op: 8, Kids: []int{0}, A: one}}, {eq, {Op: 8, Kids: []int{0}, Low: true}}, {eq, {Op: 8, Kids: []int{0}, High: true}}, {eq, {Op: 8, Kids: []int{0}, B: one}},
		{list()}, {eq, list()}, {eq, list(0)}, {eq, list(0, 0)}, {eq, eq, list(1, 0)}, {eq, eq, list(0)}, {eq, eq, list(1)}, {eq, eq, list(0, 1, 2)}, {eq, eq, list(0, 2)}, {eq, eq, list(-1, 0)}, {eq, eq, eq, list(0, 1)}, {eq, eq, eq, list(1, 2)}, {eq, eq, eq, list(0, 2)},
		{eq, eq, list(0, 1), eq, list(2, 3)}, {eq, eq, eq, list(1, 2), list(0, 3)}, {eq, eq, list(0, 1), not(2), not(2)}, {eq, eq, {Op: 9, Kids: []int{0, 1}, A: one}}, {eq, eq, {Op: 9, Kids: []int{0, 1}, B: one}}, {eq, eq, {Op: 9, Kids: []int{0, 1}, Low: true}}, {eq, eq, {Op: 9, Kids: []int{0, 1}, High: true}},
		{eq, eq}, {any, any}, {eq, not(0), eq}, {eq, eq, not(0), list(1, 2)}, {list(1, 2), eq, eq}, {not(1), eq}, {in, list(math.MaxInt, math.MinInt)}, {eq, not(math.MaxInt)}, {eq, not(math.MinInt)},
		{eq, {Op: 8, Kids: make([]int, 1000)}}, {eq, {Op: 9, Kids: make([]int, 100000)}},
		{eq, not(0), not(1), not(2), not(3), not(4)},
	} {
		holdNone(t, x)
		holdTextModel(t, x)
	}
	for _, x := range []api.Tests{{any}, {eq}, {in}, {eq, not(0)}, {any, not(0)}, {eq, in, list(0, 1)}, {eq, in, list(0, 1), not(2)}, {eq, not(0), any, list(1, 2)}, {eq, not(0), not(1), not(2), not(3)}, {{Op: 1, A: api.Expr{}, B: api.Expr{}, Kids: []int{}}}, {{Op: 2, A: one, B: api.Expr{}, Kids: []int{}}}} {
		if !holdTextModel(t, x) {
			t.Errorf("%v has no text", x)
		}
	}
}

// Expressions that are none's text's.
func TestExpressionsWithoutText(t *testing.T) {
	deep := tree(t, strings.Repeat("-", 12)+"1")
	deep = append(deep, api.Node{Op: api.OpNeg, Kids: []int{12}})
	long := tree(t, "1"+strings.Repeat(" + 1", 29))
	long = append(long, api.Node{Op: api.OpNeg, Kids: []int{58}})
	for _, x := range []api.Expr{nil, {}, {{}}, {{Op: 1, V: api.Value{Kind: 1, N: -1}}}, {{Op: 1, V: api.Value{Kind: 9}}}, {{Op: 2}}, {{Op: 2, Name: "A"}}, {{Op: 2, Name: strings.Repeat("a", 13)}}, {{Op: 2, Name: "a) or (?b"}}, {{Op: 2, Name: "a, ?b"}}, {{Op: 3, Name: "a"}}, {{Op: 17, Kids: []int{0}}}, {{Op: 27}}, {{Op: 3}, {Op: 3}}, {{Op: 1, V: api.Value{Kind: 5, S: "a, 1"}}}, deep, append(long, api.Node{Op: api.OpNeg, Kids: []int{59}})} {
		for op := range uint8(8) {
			holdNone(t, api.Tests{{Op: op, A: x, B: tree(t, "1")}})
			holdNone(t, api.Tests{{Op: op, A: tree(t, "1"), B: x}, {Op: api.TestNot, Kids: []int{0}}, {Op: 77}})
			if op != api.TestAny {
				holdNone(t, api.Tests{{Op: op, A: x}})
				holdNone(t, api.Tests{{Op: op, A: x}, {Op: api.TestNot, Kids: []int{0}}})
			}
		}
		holdNone(t, api.Tests{{Op: api.TestIn, A: tree(t, "1"), B: x}})
	}
	// What is written is never taken for tests that it is not.
	holdNone(t, api.Tests{{Op: 2, A: tree(t, "1")}, {Op: 2, A: api.Expr{{Op: 2, Name: "a, ?b"}}}, {Op: 9, Kids: []int{0, 1}}})
	for _, x := range []api.Expr{deep[:13], long[:60]} {
		for op := api.TestEq; op <= api.TestGe; op++ {
			if !holdTextModel(t, api.Tests{{Op: op, A: x}}) {
				t.Errorf("%v has no text", x)
			}
		}
		if !holdTextModel(t, api.Tests{{Op: 7, A: x, B: x, Low: true}}) {
			t.Errorf("%v has no text", x)
		}
	}
}

// P11.2: the most nodes, and the longest text

func TestMostNodes(t *testing.T) {
	x := read(t, "1"+strings.Repeat(", 1", 28))
	if len(x) != 30 || !holdTextModel(t, x) {
		t.Errorf("%d nodes", len(x))
	}
	x = append(x[:29:29], x[28], api.Test{Op: api.TestList})
	for i := range 30 {
		x[30].Kids = append(x[30].Kids, i)
	}
	holdNone(t, x)
	for n := range 40 {
		x := api.Tests{{Op: api.TestAny}}
		for i := range n {
			x = append(x, api.Test{Op: api.TestNot, Kids: []int{i}})
		}
		if holdTextModel(t, x) != (n <= 4) {
			t.Errorf("%d not", n)
		}
	}
}

// Of a text that is too long for a source none is told.
func TestLongestText(t *testing.T) {
	// quotes is a string that is written in so many bytes, two at least.
	quotes := func(bytes int) string {
		return `"` + strings.Repeat(`\"`, (bytes-2)/2) + strings.Repeat("a", bytes%2) + `"`
	}
	full := "min(" + strings.Repeat(quotes(402)+", ", 7) + quotes(402) + ")"
	for _, n := range []int{1<<16 - 2, 1<<16 - 1, 1 << 16, 1<<16 + 1, 1<<16 + 2, 1<<16 + 9} {
		var x api.Tests
		list := api.Test{Op: api.TestList}
		left := n
		for i := range 20 {
			x = append(x, api.Test{Op: api.TestEq, A: tree(t, full)})
			list.Kids = append(list.Kids, i)
			left -= len(full) + 2
		}
		last := "min(" + quotes(400) + ", " + quotes(left-407) + ")"
		x = append(x, api.Test{Op: api.TestEq, A: tree(t, last)})
		list.Kids = append(list.Kids, 20)
		x = append(x, list)
		if s := spelt(x, 21); len(s) != n {
			t.Fatalf("%d bytes; want %d", len(s), n)
		}
		if holdTextModel(t, x) != (n <= 1<<16) {
			t.Errorf("of %d bytes", n)
		}
	}
}

// P11.2: Same asks for all but places

func TestSame(t *testing.T) {
	texts := []string{"-", "1", "2", "?a", "= not (true or false)", "not(true or false)", "< 1", "<= 1", "> 1", ">= 1", "> 2", "[1 .. 2]", "(1 .. 2]", "[1 .. 2)", "(1 .. 2)", "[2 .. 2]", "[1 .. 1]", "not(1)", "not(2)", "not(-)", "1, 2", "2, 1", "1, 1", "1, 2, 3", "1, -", "not(1, 2)", "not(1), 2", "not(1), not(2)", "not(1, not(2))", "1 = 2", "?", "null", "1.0"}
	var all []api.Tests
	for _, s := range texts {
		all = append(all, read(t, s))
	}
	all = append(all, nil, api.Tests{{}}, api.Tests{{Op: 1, A: all[1][0].A}}, api.Tests{{Op: 1, B: all[1][0].A}}, api.Tests{{Op: 1, Low: true}}, api.Tests{{Op: 1, High: true}}, api.Tests{{Op: 1, Kids: []int{0}}}, api.Tests{{Op: 1, Kids: []int{1}}}, api.Tests{{Op: 1, Kids: []int{1, 2}}}, api.Tests{{Op: 1}, {Op: 1}}, api.Tests{{Op: 77}})
	for i, x := range all {
		for j, y := range all {
			if Same(x, cloneAll(y)) != (i == j) {
				t.Errorf("Same(%v, %v) = %v", x, y, i != j)
			}
		}
		y := cloneAll(x)
		for k := range y {
			y[k].At = at(k+1, 99)
			for _, z := range []api.Expr{y[k].A, y[k].B} {
				for j := range z {
					z[j].At = at(77, j)
				}
			}
			if y[k].Kids == nil {
				y[k].Kids = []int{}
			}
			if y[k].A == nil {
				y[k].A = api.Expr{}
			}
			if y[k].B == nil {
				y[k].B = api.Expr{}
			}
		}
		if !Same(x, y) || !Same(y, x) {
			t.Errorf("Same(%v, %v) = false", x, y)
		}
	}
	if !Same(nil, api.Tests{}) || !Same(api.Tests{}, nil) {
		t.Error("no tests and an empty list are two")
	}
}

// Texts of tests hang on no places, and change nothing.
func TestTextsWithoutPlaces(t *testing.T) {
	x := read(t, "not([1 .. ?a), > 5, = not (true or false)), -")
	y := cloneAll(x)
	s, _ := Text(x)
	if !isEqual(x, y) {
		t.Error("Text changed its tests")
	}
	for i := range y {
		y[i].At = at(-1, i)
	}
	if r, e := Text(y); r != s || e != api.OK {
		t.Errorf("Text = %q, %d; want %q", r, e, s)
	}
}
