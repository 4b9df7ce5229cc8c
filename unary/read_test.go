package unary

import (
	"math"
	"slices"
	"strconv"
	"strings"
	"testing"

	"witan/api"
	"witan/expr"
	"witan/lexer"
)

func at(line, col int) api.Place { return api.Place{Line: line, Col: col} }

// words are those of a text that layer 6 takes.
func words(t *testing.T, s string) []api.Tok {
	t.Helper()
	l, _, e := lexer.Lex(s)
	if e != api.OK {
		t.Fatalf("Lex(%.300q): %d", s, e)
	}
	return l
}

// tree is the expression of a text that layer 7 takes.
func tree(t *testing.T, s string) api.Expr {
	t.Helper()
	x, p, e := expr.Read(s)
	if e != api.OK {
		t.Fatalf("expr.Read(%.300q): %v, %d", s, p, e)
	}
	return x
}

// read is the tests of a text that Read takes.
func read(t *testing.T, s string) api.Tests {
	t.Helper()
	l, p, e := Read(s)
	if e != api.OK || p != (api.Place{}) {
		t.Fatalf("Read(%.300q): %v, %d", s, p, e)
	}
	return l
}

// opNames are the tests' ops as the tests here write them.
var opNames = map[string]uint8{"any": 1, "eq": 2, "lt": 3, "le": 4, "gt": 5, "ge": 6, "in[]": 7, "in(]": 7, "in[)": 7, "in()": 7, "not": 8, "list": 9}

// node is a test of s, written with its op, its column, and its expressions as
// they stand in s, or the numbers of those below it, with | between.
func node(t *testing.T, s, written string) api.Test {
	t.Helper()
	l := strings.Split(written, "|")
	col, err := strconv.Atoi(l[1])
	op, ok := opNames[l[0]]
	if err != nil || !ok {
		t.Fatalf("no node: %q", written)
	}
	n := api.Test{Op: op, At: at(1, col)}
	if op >= 8 {
		for _, k := range strings.Fields(l[2]) {
			i, _ := strconv.Atoi(k)
			n.Kids = append(n.Kids, i)
		}
		return n
	}
	// An expression's places are those of a text with blanks ahead of it.
	from := col - 1
	place := func(part string) api.Expr {
		i := strings.Index(s[from:], part)
		if i < 0 {
			t.Fatalf("%q is not in %q", part, s)
		}
		i += from
		from = i + len(part)
		return tree(t, strings.Repeat(" ", i)+part)
	}
	if len(l) > 2 {
		n.A = place(l[2])
	}
	if op == 7 {
		n.B = place(l[3])
		n.Low, n.High = l[0][2] == '(', l[0][3] == ')'
	}
	return n
}

func isEqualNode(a, b api.Node) bool {
	return a.Op == b.Op && a.V == b.V && a.Name == b.Name && a.At == b.At && slices.Equal(a.Kids, b.Kids)
}

// isEqual asks for places, too.
func isEqual(a, b api.Tests) bool {
	return slices.EqualFunc(a, b, func(x, y api.Test) bool {
		return x.Op == y.Op && x.Low == y.Low && x.High == y.High && x.At == y.At && slices.Equal(x.Kids, y.Kids) &&
			slices.EqualFunc(x.A, y.A, isEqualNode) && slices.EqualFunc(x.B, y.B, isEqualNode)
	})
}

// hold asks that s, of one line, has these nodes.
func hold(t *testing.T, s string, want ...string) {
	t.Helper()
	var w api.Tests
	for _, n := range want {
		w = append(w, node(t, s, n))
	}
	l, p, e := Read(s)
	if !isEqual(l, w) || p != (api.Place{}) || e != api.OK {
		t.Errorf("Read(%.300q) = %v, %v, %d; want %v", s, l, p, e, w)
	}
	words := words(t, s)
	if l, n, e := Parse(words, 0); !isEqual(l, w) || n != len(words) || e != api.OK {
		t.Errorf("Parse(%.300q) = %v, %d, %d; want %v", s, l, n, e, w)
	}
}

// holdOne asks it, and that One reads it all.
func holdOne(t *testing.T, s string, want ...string) {
	t.Helper()
	hold(t, s, want...)
	l, _, _ := Read(s)
	words := words(t, s)
	if one, n, e := One(words, 0); !isEqual(one, l) || n != len(words) || e != api.OK {
		t.Errorf("One(%.300q) = %v, %d, %d; want %v", s, one, n, e, l)
	}
}

// refuse asks that s tells e with that place, and nothing else.
func refuse(t *testing.T, s string, line, col int, want api.Errno) {
	t.Helper()
	if l, p, e := Read(s); l != nil || p != at(line, col) || e != want {
		t.Errorf("Read(%.300q) = %v, %v, %d; want none, %d %d, %d", s, l, p, e, line, col, want)
	}
}

type call func(l []api.Tok, from int) (api.Tests, int, api.Errno)

// calls are both of them, by their names.
var calls = map[string]call{"Parse": Parse, "One": One}

// holdAt asks of both calls the tests of want (a text), which begin at word
// from, and how far they go.
func holdAt(t *testing.T, l []api.Tok, from int, want string, next int) {
	t.Helper()
	for name, f := range calls {
		holdCall(t, name, f, l, from, want, next)
	}
}

func holdCall(t *testing.T, name string, f call, l []api.Tok, from int, want string, next int) {
	t.Helper()
	w := read(t, want)
	if x, n, e := f(l, from); !Same(x, w) || n != next || e != api.OK {
		t.Errorf("%s(%s, %d) = %v, %d, %d; want %v, %d", name, told(l), from, x, n, e, w, next)
	}
}

// refuseAt asks of both calls an error, and the word at which it is.
func refuseAt(t *testing.T, l []api.Tok, from, at int, want api.Errno) {
	t.Helper()
	for name, f := range calls {
		refuseCall(t, name, f, l, from, at, want)
	}
}

func refuseCall(t *testing.T, name string, f call, l []api.Tok, from, at int, want api.Errno) {
	t.Helper()
	if x, n, e := f(l, from); x != nil || n != at || e != want {
		t.Errorf("%s(%s, %d) = %v, %d, %d; want none, %d, %d", name, told(l), from, x, n, e, at, want)
	}
}

// told tells words by their texts, for messages.
func told(l []api.Tok) string {
	var b strings.Builder
	for _, w := range l[:min(len(l), 100)] {
		b.WriteString(" " + strconv.Itoa(int(w.Kind)) + ":" + w.Text)
	}
	return b.String()
}

// P11.1: each form of the grammar, alone

func TestForms(t *testing.T) {
	holdOne(t, "-", "any|1")
	holdOne(t, "5", "eq|1|5")
	holdOne(t, "= 5", "eq|1|5")
	holdOne(t, "< 5", "lt|1|5")
	holdOne(t, "<= 5", "le|1|5")
	holdOne(t, "> 5", "gt|1|5")
	holdOne(t, ">= 5", "ge|1|5")
	holdOne(t, "[1 .. 5]", "in[]|1|1|5")
	holdOne(t, "(1 .. 5]", "in(]|1|1|5")
	holdOne(t, "[1 .. 5)", "in[)|1|1|5")
	holdOne(t, "(1 .. 5)", "in()|1|1|5")
	holdOne(t, "not(5)", "eq|5|5", "not|1|0")
	holdOne(t, "not(5, 6)", "eq|5|5", "eq|8|6", "list|5|0 1", "not|1|2")
	hold(t, "5, 6", "eq|1|5", "eq|4|6", "list|1|0 1")
	hold(t, "5, 6, 7, 8", "eq|1|5", "eq|4|6", "eq|7|7", "eq|10|8", "list|1|0 1 2 3")
}

// The chapter's examples.
func TestExamplesAreRead(t *testing.T) {
	hold(t, "> 3, null", "gt|1|3", "eq|6|null", "list|1|0 1")
	holdOne(t, "[1 .. 5)", "in[)|1|1|5")
	holdOne(t, "not(5, 6)", "eq|5|5", "eq|8|6", "list|5|0 1", "not|1|2")
	holdOne(t, "-", "any|1")
}

func TestExpressionsAreTheLongest(t *testing.T) {
	for _, s := range []string{
		"1", "1.5", `"a b"`, "#x", "true", "false", "null", "?a", "?", "1 + 2 * 3", "?a = 1", "? <> 2", "? < 3", "not true", "not not (true)", "true and false or ?b", "(1)", "((1 + 2))", "(1 + 2) * 3", "(1) - (2)",
		"-1", "- 1", "--1", "-(1)", "-?a + 1", "abs(1)", "min(1, 2, 3)", "if(?a = 1, 2, 3)", "mod(?, 2) = 0", "not ?a = 1", "not -1 = ?",
	} {
		holdOne(t, s, "eq|1|"+s)
		holdOne(t, "  "+s, "eq|3|"+s)
		for sign, op := range map[string]string{"=": "eq", "<": "lt", "<=": "le", ">": "gt", ">=": "ge"} {
			holdOne(t, sign+s, op+"|1|"+s)
			holdOne(t, " "+sign+"  "+s, op+"|2|"+s)
			hold(t, sign+s+","+s, op+"|1|"+s, "eq|"+strconv.Itoa(len(sign+s)+2)+"|"+s, "list|1|0 1")
		}
		holdOne(t, "["+s+"..99]", "in[]|1|"+s+"|99")
		holdOne(t, "[99.."+s+")", "in[)|1|99|"+s)
		holdOne(t, "("+s+" .. "+s+"]", "in(]|1|"+s+"|"+s)
		holdOne(t, "not("+s+")", "eq|5|"+s, "not|1|0")
		hold(t, "-, "+s+", -", "any|1", "eq|4|"+s, "any|"+strconv.Itoa(len(s)+6), "list|1|0 1 2")
	}
}

// A sign ahead of an expression takes what is a one of another form without it.
func TestSignsAheadOfOtherForms(t *testing.T) {
	holdOne(t, "= not (true)", "eq|1|not (true)")
	holdOne(t, "= not(true) and ?a", "eq|1|not(true) and ?a")
	holdOne(t, "= (1 + 2)", "eq|1|(1 + 2)")
	holdOne(t, "> -1", "gt|1|-1")
	refuse(t, "= -", 1, 4, api.ErrForm)
	refuse(t, "= [1 .. 2]", 1, 3, api.ErrForm)
	refuse(t, "= (1 .. 2)", 1, 6, api.ErrForm)
	refuse(t, "> > 1", 1, 3, api.ErrForm)
	refuse(t, "= = 1", 1, 3, api.ErrForm)
	refuse(t, "<> 1", 1, 1, api.ErrForm)
	refuse(t, "> not(1, 2)", 1, 8, api.ErrForm)
}

// P11.1: what the first word tells

func TestMinus(t *testing.T) {
	hold(t, "-, - 1", "any|1", "eq|4|- 1", "list|1|0 1")
	hold(t, "-,-,-", "any|1", "any|3", "any|5", "list|1|0 1 2")
	holdOne(t, "not(-)", "any|5", "not|1|0")
	holdOne(t, "not(-, -1)", "any|5", "eq|8|-1", "list|5|0 1", "not|1|2")
	for _, x := range []struct {
		s    string
		next int
	}{
		{"-", 1}, {"- -", 1}, {"- - -", 1}, {"- x", 1}, {"- )", 1}, {"- ]", 1}, {"- .. 2", 1}, {"- = 1", 1}, {"- not 1", 1}, {"- [1 .. 2]", 1}, {"- (1 .. 2)", 1}, {"- (1", 1}, {"- 1 +", 1}, {"- abs(", 1}, {"- mod(1)", 1}, {"- min(1,", 1}, {"- , a: 1", 1}, {"- 1 and not", 1},
		{"- 1 + " + strings.Repeat("-", 12) + "(1)", 1}, {strings.Repeat("-", 13) + "1", 1}, {"-1" + strings.Repeat(" + 1", 30), 1}, // too deep, too deep, 62 nodes
	} {
		holdAt(t, words(t, x.s), 0, "-", x.next)
	}
	for _, x := range []struct {
		s, want string
		next    int
	}{
		{"- 1", "-1", 2}, {"- - 1", "--1", 3}, {"- 1 2", "-1", 2}, {"-1 .. 2", "-1", 2}, {"- (1 + 2) - 3", "-(1 + 2) - 3", 8}, {"-1 = 1 = 1", "-1 = 1", 4}, {"-1, a : 1", "-1", 2},
		{strings.Repeat("-", 12) + "1", strings.Repeat("-", 12) + "1", 13}, {"?" + strings.Repeat(" - 1", 29) + " )", "?" + strings.Repeat(" - 1", 29), 59},
	} {
		holdAt(t, words(t, x.s), 0, x.want, x.next)
	}
}

func TestNot(t *testing.T) {
	holdOne(t, "not(true)", "eq|5|true", "not|1|0")
	holdOne(t, "not (true)", "eq|6|true", "not|1|0")
	holdOne(t, "not ((true))", "eq|6|(true)", "not|1|0")
	holdOne(t, "not true", "eq|1|not true")
	holdOne(t, "not not (true)", "eq|1|not not (true)")
	holdOne(t, "not ?a = (1)", "eq|1|not ?a = (1)")
	holdOne(t, "not(not(5))", "eq|9|5", "not|5|0", "not|1|1")
	holdOne(t, "not(not 5)", "eq|5|not 5", "not|1|0")
	holdOne(t, "not([1 .. 3])", "in[]|5|1|3", "not|1|0")
	holdOne(t, "not((1 .. 3))", "in()|5|1|3", "not|1|0")
	hold(t, "not(1), not(2, 3)", "eq|5|1", "not|1|0", "eq|13|2", "eq|16|3", "list|13|2 3", "not|9|4", "list|1|1 5")
	holdOne(t, "not(1, not(2, 3), 4)", "eq|5|1", "eq|12|2", "eq|15|3", "list|12|1 2", "not|8|3", "eq|19|4", "list|5|0 4 5", "not|1|6")
	// What stands behind the ) belongs to no expression.
	holdAt(t, words(t, "not(true) and false"), 0, "not(true)", 4)
	holdAt(t, words(t, "not (1) = 2"), 0, "not(1)", 4)
	holdAt(t, words(t, "not (1 + 2) * 3"), 0, "not(1 + 2)", 6)
	refuse(t, "not(true) and false", 1, 11, api.ErrForm)
	refuse(t, "not(1)(2)", 1, 7, api.ErrForm)
	for _, x := range []struct {
		s   string
		col int
	}{
		{"not", 4}, {"not(", 5}, {"not()", 5}, {"not(1", 6}, {"not(1,", 7}, {"not(1,)", 7}, {"not(1 2)", 7}, {"not(1]", 6}, {"not(,1)", 5}, {"not[1]", 4}, {"not 1,", 7}, {"not =1", 5}, {"not -", 6}, {"not(not)", 8}, {"not(not())", 9},
		{"not(1, a: 2)", 6}, {"not(-", 6}, {"not(x)", 5}, {"not x", 5}, {"nots(1)", 1}, {"?not(1)", 5}, {"#not(1)", 5}, {"not:1", 4},
	} {
		refuse(t, x.s, 1, x.col, api.ErrForm)
	}
}

// P11.1: at most 4 not are open at one place.
func TestNotsThatAreOpen(t *testing.T) {
	nots := func(n int, s string) string { return strings.Repeat("not(", n) + s + strings.Repeat(")", n) }
	for n := range 5 {
		for _, s := range []string{"1", "-", "> 1", "[1 .. 2]", "1, 2", "not true", "not not (true)", "= not (true or false)"} {
			if n > 0 {
				l := words(t, nots(n, s))
				x, next, e := Parse(l, 0)
				y, after, f := One(l, 0)
				if e != api.OK || next != len(l) || f != api.OK || after != len(l) || !isEqual(x, y) || len(x) != len(read(t, s))+n {
					t.Errorf("Parse(%q) = %v, %d, %d; One: %v, %d, %d", nots(n, s), x, next, e, y, after, f)
				}
			}
		}
	}
	refuse(t, nots(5, "1"), 1, 17, api.ErrDepth)
	refuse(t, nots(5, ""), 1, 17, api.ErrDepth)
	refuse(t, nots(5, "x"), 1, 17, api.ErrDepth)
	refuse(t, nots(20, "1"), 1, 17, api.ErrDepth)
	refuse(t, strings.Repeat("not(", 5), 1, 17, api.ErrDepth)
	refuse(t, "not(not(not(not(1, not(2)))))", 1, 20, api.ErrDepth)
	refuse(t, "1, not(not(not(not(1, -, not(2)))))", 1, 26, api.ErrDepth)
	refuse(t, "x, "+nots(5, "1"), 1, 1, api.ErrForm)
	refuse(t, strings.Repeat("not(", 4)+"not", 1, 20, api.ErrForm)
	refuse(t, strings.Repeat("not(", 4)+"not 1", 1, 22, api.ErrForm)
	refuse(t, strings.Repeat("not(", 4)+"not[", 1, 20, api.ErrForm)
	refuseAt(t, words(t, nots(5, "1")), 0, 8, api.ErrDepth)
	refuseAt(t, words(t, nots(6, "1")), 2, 10, api.ErrDepth)
	holdAt(t, words(t, nots(5, "1")), 2, nots(4, "1"), 15)
	hold(t, "not(1), not(2), not(3), not(4), not(5), not(6)",
		"eq|5|1", "not|1|0", "eq|13|2", "not|9|2", "eq|21|3", "not|17|4", "eq|29|4", "not|25|6", "eq|37|5", "not|33|8", "eq|45|6", "not|41|10", "list|1|1 3 5 7 9 11")
	x := read(t, "not("+nots(3, "1")+", "+nots(3, "2")+", "+nots(3, "3")+")")
	if len(x) != 14 {
		t.Errorf("%d nodes", len(x))
	}
}

func TestRanges(t *testing.T) {
	holdOne(t, "[1..2.5]", "in[]|1|1|2.5")
	holdOne(t, "(1..2.5]", "in(]|1|1|2.5")
	holdOne(t, " ( ?a + 1 .. (2) )", "in()|2|?a + 1|(2)")
	holdOne(t, "[(1) .. ((2))]", "in[]|1|(1)|((2))")
	holdOne(t, "((1) .. 2)", "in()|1|(1)|2")
	holdOne(t, "[-1 .. -2)", "in[)|1|-1|-2")
	holdOne(t, "(-1 .. --2]", "in(]|1|-1|--2")
	holdOne(t, "[1 .. 2 = 3]", "in[]|1|1|2 = 3")
	holdOne(t, "(not (1) .. not (2))", "in()|1|not (1)|not (2)")
	holdOne(t, "[min(1, 2) .. if(true, 3, 4)]", "in[]|1|min(1, 2)|if(true, 3, 4)")
	hold(t, "[1 .. 2), (3 .. 4], 5", "in[)|1|1|2", "in(]|11|3|4", "eq|21|5", "list|1|0 1 2")
	// "(" begins an expression, if no range begins there.
	holdOne(t, "(1)", "eq|1|(1)")
	holdOne(t, "(1 + 2) * 3", "eq|1|(1 + 2) * 3")
	holdOne(t, "((1 + 2) * 3)", "eq|1|((1 + 2) * 3)")
	hold(t, "(1), (2)", "eq|1|(1)", "eq|6|(2)", "list|1|0 1")
	holdAt(t, words(t, "(1) .. 2)"), 0, "1", 3)
	holdAt(t, words(t, "[1 .. 2] + 3"), 0, "[1 .. 2]", 5)
	holdAt(t, words(t, "(1 .. 2)(3 .. 4)"), 0, "(1 .. 2)", 5)
	for _, x := range []struct {
		s   string
		col int
	}{
		// No range: "[" begins nothing else, "(" an expression.
		{"[", 1}, {"[]", 1}, {"[1", 1}, {"[1]", 1}, {"[1)", 1}, {"[1, 2]", 1}, {"[1 2]", 1}, {"[x .. 2]", 1}, {"[.. 2]", 1}, {"[-]", 1}, {"[- .. 2]", 1}, {"[[1 .. 2] .. 3]", 1}, {"[> 1 .. 2]", 1}, {"[not(1, 2) .. 3]", 1}, {"[mod(1) .. 3]", 1}, {"[1 = 1 = 1 .. 2]", 1}, {"not([1])", 5}, {"1, [1]", 4},
		{"(", 2}, {"()", 2}, {"(1", 3}, {"(1]", 3}, {"(1, 2)", 3}, {"(1 2)", 4}, {"(x .. 2)", 2}, {"(.. 2)", 2}, {"(-)", 3}, {"(- .. 2)", 4}, {"((1 .. 2))", 5}, {"((1 .. 2) .. 3)", 5}, {"(> 1 .. 2)", 2}, {"(1) .. 2)", 5}, {"(1 = 1 = 1 .. 2)", 8},
		// A range, as far as it goes.
		{"[1 ..", 6}, {"[1 .. ]", 7}, {"[1 .. x]", 7}, {"[1 .. -]", 8}, {"[1 .. 2", 8}, {"[1 .. 2, 3]", 8}, {"[1 .. 2 3]", 9}, {"[1 .. 2 .. 3]", 9}, {"[1 .. (2 .. 3)]", 10}, {"[1 .. [2 .. 3]]", 7}, {"[1 .. > 2]", 7}, {"[1 .. not(2, 3)]", 12}, {"[1 .. 1 = 1 = 1]", 13},
		{"(1 ..", 6}, {"(1 .. )", 7}, {"(1 .. x)", 7}, {"(1 .. 2", 8}, {"(1 .. 2, 3)", 8}, {"(1 .. 2 .. 3)", 9}, {"(1 .. 2:", 8}, {"not([1 .. 2)", 13}, {"(1 .. 2))", 9}, {"[1 .. 2]]", 9},
	} {
		refuse(t, x.s, 1, x.col, api.ErrForm)
	}
}

// P11.1: a comma goes on, unless a name and a colon stand behind it

func TestCommas(t *testing.T) {
	for _, x := range []struct {
		s, want string
		next    int
	}{
		{"1, a: 2", "1", 1}, {"1, 2, a: 3", "1, 2", 3}, {"-, a:", "-", 1}, {"> 1, not: 1", "> 1", 2}, {"1, true: 1", "1", 1}, {"1, null :", "1", 1}, {"1, min: 2", "1", 1}, {"1, rule:", "1", 1}, {"1, x1: - , y", "1", 1}, {"[1 .. 2), abcdefghijkl: 1", "[1 .. 2)", 5},
		{"not(1), a: 2", "not(1)", 4}, {"not true, a: 2", "not true", 2}, {"1, a : 2, 3", "1", 1}, {"min(1, 2), a: 2", "min(1, 2)", 6},
		{"1 : 2", "1", 1}, {"1 a: 2", "1", 1}, {"1 x", "1", 1}, {"1, 2 : 3", "1, 2", 3}, {"1, 2]", "1, 2", 3}, {"1, 2)", "1, 2", 3}, {"1, - : 2", "1, -", 3}, {"1, ? : 2", "1, ?", 3}, {"1, ?a : 2", "1, ?a", 3}, {"1, #a : 2", "1, #a", 3}, {"1, \"a\" : 2", "1, \"a\"", 3},
	} {
		holdCall(t, "Parse", Parse, words(t, x.s), 0, x.want, x.next)
	}
	for _, x := range []struct {
		s  string
		at int
	}{
		{",", 0}, {"1,", 2}, {"1, ,", 2}, {"1, x", 2}, {"1, a", 2}, {"1, a 2", 2}, {"1, a, b: 2", 2}, {"1, a = 1 : 2", 2}, {"1, : 2", 2}, {"1, ) : 2", 2}, {"1, (a : 2)", 3}, {"1, 2, ]", 4}, {"1, not", 3}, {"1, min", 3}, {"1, [2]", 2}, {"1, 2,", 4}, {"1, true, a", 4},
	} {
		refuseCall(t, "Parse", Parse, words(t, x.s), 0, x.at, api.ErrForm)
	}
	refuse(t, "1, a: 2", 1, 2, api.ErrForm)
	refuse(t, "1, ", 1, 3, api.ErrForm)
	refuse(t, "not(1, a: 2)", 1, 6, api.ErrForm)
	refuse(t, "not(1, 2, true : 2)", 1, 9, api.ErrForm)
}

// A one alone ends at a comma, but within a not.
func TestOne(t *testing.T) {
	for _, x := range []struct {
		s, want string
		next    int
	}{
		{"1, 2", "1", 1}, {"1,", "1", 1}, {"1, x", "1", 1}, {"-, 1", "-", 1}, {"-1, 1", "-1", 2}, {"> 1, 2", "> 1", 2}, {"[1 .. 2], 3", "[1 .. 2]", 5}, {"(1), (2)", "1", 3}, {"not(1, 2), 3", "not(1, 2)", 6}, {"not(1, not(2, -)), 3", "not(1, not(2, -))", 11}, {"1 2", "1", 1}, {"1 : 2", "1", 1},
	} {
		holdCall(t, "One", One, words(t, x.s), 0, x.want, x.next)
	}
	for _, x := range []struct {
		s  string
		at int
	}{
		{"", 0}, {",", 0}, {"x", 0}, {">", 1}, {"> ,", 1}, {"not(1, a: 2)", 3}, {"not(1,)", 4}, {"[1, 2]", 0}, {"[1 .. 2, 3]", 4}, {"(1, 2)", 2}, {"not", 1},
	} {
		refuseCall(t, "One", One, words(t, x.s), 0, x.at, api.ErrForm)
	}
}

// P11.1: where to begin

func TestFrom(t *testing.T) {
	l := words(t, "> 1 - not(2, [3 .. 4)) , 5")
	for _, from := range []int{-1, -2, len(l) + 1, len(l) + 2, math.MinInt, math.MaxInt, math.MinInt64, math.MaxInt64, -1 << 32, 1 << 32} {
		refuseAt(t, l, from, 0, api.ErrArg)
		refuseAt(t, nil, from, 0, api.ErrArg)
	}
	for _, x := range []struct {
		from int
		want string
		next int
	}{
		{2, "-", 3}, {7, "[3 .. 4)", 12}, {8, "3", 9}, {10, "4", 11}, {14, "5", 15},
	} {
		holdAt(t, l, x.from, x.want, x.next)
	}
	holdCall(t, "Parse", Parse, l, 3, "not(2, [3 .. 4)), 5", 15)
	holdCall(t, "One", One, l, 3, "not(2, [3 .. 4))", 13)
	holdCall(t, "Parse", Parse, l, 5, "2, [3 .. 4)", 12)
	holdCall(t, "One", One, l, 5, "2", 6)
	refuseAt(t, l, 0, 3, api.ErrForm)
	refuseAt(t, l, 1, 3, api.ErrForm)
	refuseAt(t, l, 4, 6, api.ErrForm)
	refuseAt(t, l, 6, 6, api.ErrForm)
	refuseAt(t, l, 9, 9, api.ErrForm)
	refuseAt(t, l, 12, 12, api.ErrForm)
	refuseAt(t, l, 15, 15, api.ErrForm)
	refuseAt(t, nil, 0, 0, api.ErrForm)
	refuseAt(t, []api.Tok{}, 0, 0, api.ErrForm)
}

// P11.1: at most 30 nodes

func TestNodes(t *testing.T) {
	ones := func(n int) string { return "1" + strings.Repeat(", 1", n-1) }
	for n := 1; n <= 29; n++ {
		if x := read(t, ones(n)); n > 1 && len(x) != n+1 {
			t.Errorf("%d nodes of %d ones", len(x), n)
		}
	}
	l := words(t, "= "+ones(30))
	refuseCall(t, "Parse", Parse, l, 0, 0, api.ErrFull)
	refuseCall(t, "Parse", Parse, l, 1, 1, api.ErrFull)
	holdCall(t, "Parse", Parse, l, 3, ones(29), 60) // from the second one on
	holdCall(t, "One", One, l, 1, "1", 2)
	refuse(t, ones(30), 1, 1, api.ErrFull)
	refuse(t, "  "+ones(30), 1, 3, api.ErrFull)
	refuse(t, "\n "+ones(3000), 2, 2, api.ErrFull)
	l = words(t, "x not("+ones(28)+")")
	holdAt(t, l, 1, "not("+ones(28)+")", len(l))
	l = words(t, "x not("+ones(29)+")")
	refuseAt(t, l, 1, 1, api.ErrFull)
	holdAt(t, words(t, "not("+ones(14)+", not("+ones(11)+"))"), 0, "not("+ones(14)+", not("+ones(11)+"))", 55)
	refuseAt(t, words(t, "not("+ones(14)+", not("+ones(12)+"), 1)"), 0, 0, api.ErrFull)
	// That is the last thing that is asked.
	refuse(t, ones(40)+", x", 1, 121, api.ErrForm)
	refuse(t, ones(40)+" x", 1, 1, api.ErrFull)
	refuse(t, ones(40)+", not(not(not(not(not(1)))))", 1, 137, api.ErrDepth)
	refuse(t, ones(40)+", mod(1)", 1, 126, api.ErrMany)
}

// P11.1: what layer 7 tells, at its words

func TestWhatLayer7Tells(t *testing.T) {
	deep := func(n int) string { return strings.Repeat("(", n) + "1" + strings.Repeat(")", n) }
	most := "1" + strings.Repeat(" + 1", 29) // 59 nodes
	holdOne(t, deep(12), "eq|1|"+deep(12))
	holdOne(t, "> "+deep(12), "gt|1|"+deep(12))
	holdOne(t, "(("+deep(10)+") .. "+deep(12)+")", "in()|1|("+deep(10)+")|"+deep(12))
	holdOne(t, "-"+most, "eq|1|-"+most)
	holdOne(t, "< -"+most, "lt|1|-"+most)
	holdOne(t, "[-"+most+" .. -"+most+"]", "in[]|1|-"+most+"|-"+most)
	holdOne(t, strings.Repeat("not(", 4)+deep(12)+"))))", "eq|17|"+deep(12), "not|13|0", "not|9|1", "not|5|2", "not|1|3")
	for _, x := range []struct {
		s  string
		at int
		e  api.Errno
	}{
		{deep(13), 12, api.ErrDepth}, {"= " + deep(13), 13, api.ErrDepth}, {"not(" + deep(13) + ")", 14, api.ErrDepth}, {"[1 .. " + deep(13) + "]", 15, api.ErrDepth}, {"(1 .. " + strings.Repeat("-", 13) + "1)", 15, api.ErrDepth},
		{"= " + strings.Repeat("-", 13) + "1", 13, api.ErrDepth}, {strings.Repeat("not ", 13) + "1", 12, api.ErrDepth}, {"= not " + deep(12), 13, api.ErrDepth},
		{"mod(1)", 3, api.ErrMany}, {"> mod(1, 2, 3)", 6, api.ErrMany}, {"not(abs(1, 2))", 5, api.ErrMany}, {"[1 .. if(1)]", 6, api.ErrMany},
		{most + " + 1", 0, api.ErrFull}, {"> " + most + " + 1", 1, api.ErrFull}, {"not(" + most + " + 1)", 2, api.ErrFull}, {"[1 .. " + most + " + 1]", 3, api.ErrFull}, {"(" + most + " + 1)", 0, api.ErrFull},
		{"> 1 +", 3, api.ErrForm}, {"> (1", 3, api.ErrForm}, {"(1 .. (2]", 5, api.ErrForm},
		// These begin no range, as layer 7 reads nothing behind the bracket.
		{"[" + deep(13) + " .. 1]", 0, api.ErrForm}, {"[" + most + " + 1 .. 1]", 0, api.ErrForm}, {"[mod(1) .. 1]", 0, api.ErrForm},
	} {
		refuseAt(t, words(t, x.s), 0, x.at, x.e)
	}
	// Behind the ( that begins a range stand 12 levels, though with it there would be 13.
	holdOne(t, "("+deep(12)+" .. 1)", "in()|1|"+deep(12)+"|1")
	refuseAt(t, words(t, "("+deep(12)+")"), 0, 12, api.ErrDepth)
	refuseAt(t, words(t, "("+deep(13)+" .. 1)"), 0, 12, api.ErrDepth)
	refuseAt(t, words(t, "("+most+" + 1 .. 1)"), 0, 62, api.ErrForm)
}

// P11.1: Read tells what layer 6 tells, and its places are layer 7's

func TestRead(t *testing.T) {
	for _, s := range []string{"1, A", "\"", "1 ?A", "#", "007", "1.50", "9223372036854775808", "[1 ... 2]", "\n > 922337203685477.5808", "not(!", strings.Repeat(" ", 1<<16) + "1", "x, @", "", ";", " \n", "1 ; x"} {
		l, p, e := lexer.Lex(s)
		x, q, f := Read(s)
		if e != api.OK && (x != nil || q != p || f != e) {
			t.Errorf("Read(%.50q) = %v, %v, %d; want none, %v, %d", s, x, q, f, p, e)
		}
		if e == api.OK && len(l) == 0 && (x != nil || q != at(1, 1) || f != api.ErrForm) {
			t.Errorf("Read(%.50q) = %v, %v, %d", s, x, q, f)
		}
	}
	if x, p, e := Read(strings.Repeat(" ", 1<<16+1)); x != nil || p != (api.Place{}) || e != api.ErrLong {
		t.Errorf("Read of a text that is too long = %v, %v, %d", x, p, e)
	}
	read(t, strings.Repeat(" ", 1<<16-1)+"1")
	refuse(t, "", 1, 1, api.ErrForm)
	refuse(t, "\n\n  ", 1, 1, api.ErrForm)
	refuse(t, "1,\n  x", 2, 3, api.ErrForm)
	refuse(t, "1\n,\n", 2, 2, api.ErrForm)
	refuse(t, "1\n  2", 2, 3, api.ErrForm)
	refuse(t, "> \n\n", 1, 2, api.ErrForm)
	refuse(t, "[1 .. \"a b\"  \n", 1, 12, api.ErrForm)
	refuse(t, "[1 .. ?ab ; x", 1, 10, api.ErrForm)
	refuse(t, "not(#ab", 1, 8, api.ErrForm)
	refuse(t, "(?\n", 1, 3, api.ErrForm)
	refuse(t, "1,2,a:3", 1, 4, api.ErrForm)
	refuse(t, "not(\n not(not(not(\nnot(1)))))", 3, 1, api.ErrDepth)
	l, p, e := Read(";x\n not ;y\n\n( > ?a\n, - ) ;")
	want := api.Tests{
		{Op: api.TestGt, A: api.Expr{{Op: api.OpVar, Name: "a", At: at(4, 5)}}, At: at(4, 3)},
		{Op: api.TestAny, At: at(5, 3)},
		{Op: api.TestList, Kids: []int{0, 1}, At: at(4, 3)},
		{Op: api.TestNot, Kids: []int{2}, At: at(2, 2)},
	}
	if !isEqual(l, want) || p != (api.Place{}) || e != api.OK {
		t.Errorf("Read = %v, %v, %d", l, p, e)
	}
}

// P11.1: words in quotes may be names or signs, but for those that are layer 7's

func sign(s string) api.Tok { return api.Tok{Kind: api.TokSign, Text: s} }

func name(s string) api.Tok { return api.Tok{Kind: api.TokName, Text: s} }

func TestWordsOfTheOtherKind(t *testing.T) {
	one := api.Tok{Kind: api.TokNumber, Text: "1", V: api.Value{Kind: api.Int, N: 1}}
	for _, of := range []func(s string) api.Tok{sign, name} {
		holdAt(t, []api.Tok{of("-")}, 0, "-", 1)
		holdAt(t, []api.Tok{of("-"), one}, 0, "-1", 2)
		for _, s := range []string{"=", "<", "<=", ">", ">="} {
			holdAt(t, []api.Tok{of(s), one}, 0, s+" 1", 2)
		}
		holdAt(t, []api.Tok{of("["), one, of(".."), one, of("]")}, 0, "[1 .. 1]", 5)
		holdAt(t, []api.Tok{of("("), one, of(".."), one, of(")")}, 0, "(1 .. 1)", 5)
		holdAt(t, []api.Tok{of("["), one, sign(".."), one, of(")")}, 0, "[1 .. 1)", 5)
		holdAt(t, []api.Tok{of("not"), of("("), one, of(")")}, 0, "not(1)", 4)
		holdAt(t, []api.Tok{of("not"), sign("("), one, of(","), one, name(")")}, 0, "not(1, 1)", 6)
		holdCall(t, "Parse", Parse, []api.Tok{one, of(","), one}, 0, "1, 1", 3)
		holdCall(t, "Parse", Parse, []api.Tok{one, of(","), name("a"), of(":")}, 0, "1", 1)
		refuseCall(t, "Parse", Parse, []api.Tok{one, of(","), sign("a"), of(":")}, 0, 2, api.ErrForm)
		holdCall(t, "Parse", Parse, []api.Tok{one, of(","), name(""), of(":")}, 0, "1", 1)
		holdCall(t, "Parse", Parse, []api.Tok{one, of(","), name(":"), of(":")}, 0, "1", 1)
		refuseCall(t, "Parse", Parse, []api.Tok{one, of(","), name("a"), {Kind: api.TokVar, Text: ":"}}, 0, 2, api.ErrForm)
		refuseAt(t, []api.Tok{of("")}, 0, 0, api.ErrForm)
		refuseAt(t, []api.Tok{of(""), one}, 0, 0, api.ErrForm)
	}
	// An expression's ( is a sign alone.
	refuseAt(t, []api.Tok{name("("), one, sign(")")}, 0, 0, api.ErrForm)
	holdAt(t, []api.Tok{sign("("), one, name(")")}, 0, "(1)", 3)
	refuseAt(t, []api.Tok{sign("true")}, 0, 0, api.ErrForm)
	// Of all other kinds none is a word of the grammar.
	for kind := range 256 {
		k := uint8(kind)
		if k == api.TokName || k == api.TokSign {
			continue
		}
		for _, s := range []string{"-", "not", "[", "(", "=", "<", ">=", "a"} {
			w := api.Tok{Kind: k, Text: s}
			l := []api.Tok{w, sign("("), one, sign(")")}
			x, n, e := Parse(l, 0)
			isAtom := api.TokVar <= k && k <= api.TokSym
			if isAtom != (e == api.OK) || (isAtom && (len(x) != 1 || x[0].Op != api.TestEq || n != 1)) || (!isAtom && (x != nil || n != 0 || e != api.ErrForm)) {
				t.Errorf("Parse of a word %q of kind %d = %v, %d, %d", s, k, x, n, e)
			}
		}
		for _, l := range [][]api.Tok{
			{sign("["), one, {Kind: k, Text: ".."}, one, sign("]")}, {sign("("), one, sign(".."), one, {Kind: k, Text: ")"}}, {name("not"), sign("("), one, {Kind: k, Text: ")"}},
		} {
			if x, _, e := Parse(l, 0); x != nil || e != api.ErrForm {
				t.Errorf("Parse(%s) = %v, %d", told(l), x, e)
			}
		}
		holdCall(t, "Parse", Parse, []api.Tok{one, {Kind: k, Text: ","}, one}, 0, "1", 1)
		// Nor is it a name that stops a comma.
		x, n, e := Parse([]api.Tok{one, sign(","), {Kind: k, Text: "a"}, sign(":")}, 0)
		if isAtom := api.TokVar <= k && k <= api.TokSym; isAtom != (e == api.OK) || (isAtom && (len(x) != 3 || n != 3)) || (!isAtom && (x != nil || n != 2 || e != api.ErrForm)) {
			t.Errorf("Parse of a word a of kind %d behind a comma = %v, %d, %d", k, x, n, e)
		}
	}
}

// P1: any bytes end, any words too.

func TestAnyBytes(t *testing.T) {
	for b := range 256 {
		for _, s := range []string{string([]byte{byte(b)}), "1, " + string([]byte{byte(b)}), "[1 .. 2" + string([]byte{byte(b)}), "not(" + string([]byte{byte(b)}) + ")"} {
			x, p, e := Read(s)
			if (e == api.OK) != (x != nil) || (e == api.OK) != (p == api.Place{}) {
				t.Errorf("Read(%q) = %v, %v, %d", s, x, p, e)
			}
		}
	}
}

// Very long rows of words end, and in little time.
func TestVeryManyWords(t *testing.T) {
	one := words(t, "1")[0]
	for _, row := range []string{"1,", "(", "(1 +", "-", "-,", "not (", "not", "[1 ..", "[", ">", "(1),", "[1 .. 2],", "- 1 ,", "not(-),", "-1"} {
		l := append(slices.Repeat(words(t, row), 50000), one)
		for _, f := range calls {
			if x, n, e := f(l, 0); (e == api.OK) != (x != nil) || n > len(l) {
				t.Errorf("%s ..: %d nodes, %d, %d", row, len(x), n, e)
			}
		}
	}
}

// What is told is in memory of its own: words may change behind the call, and
// no two lists of nodes are one.
func TestMemoryOfItsOwn(t *testing.T) {
	for _, f := range calls {
		l := words(t, "not([?a + 1 .. \"bc\"], min(?a, #d), not(1, 2))")
		before := slices.Clone(l)
		x, _, e := f(l, 0)
		y, _, _ := f(l, 0)
		if e != api.OK || !slices.Equal(l, before) {
			t.Fatalf("%d, %v", e, l)
		}
		for i := range l {
			l[i] = api.Tok{Kind: 9, Text: "zzz"}
		}
		if !isEqual(x, y) {
			t.Errorf("%v changed to %v", y, x)
		}
		if s, e := Text(x); s != "not([?a + 1 .. \"bc\"], min(?a, #d), not(1, 2))" || e != api.OK {
			t.Errorf("Text = %q, %d", s, e)
		}
		for i := range x {
			x[i].Kids = append(x[i].Kids[:0], 77, 77, 77)[:0]
			for _, z := range []api.Expr{x[i].A, x[i].B} {
				for j := range z {
					z[j].Kids = append(z[j].Kids[:0], 77, 77)[:0]
				}
			}
		}
		if s, e := Text(y); s != "not([?a + 1 .. \"bc\"], min(?a, #d), not(1, 2))" || e != api.OK {
			t.Errorf("Text of the other = %q, %d", s, e)
		}
	}
}
