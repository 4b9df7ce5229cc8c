package expr

import (
	"slices"
	"strconv"
	"strings"
	"testing"
	"unsafe"

	"witan/api"
	"witan/lexer"
)

func at(line, col int) api.Place { return api.Place{Line: line, Col: col} }

func node(op uint8, col int, kids ...int) api.Node {
	return api.Node{Op: op, Kids: kids, At: at(1, col)}
}

func lit(v api.Value, col int) api.Node { return api.Node{Op: api.OpLit, V: v, At: at(1, col)} }

func variable(name string, col int) api.Node {
	return api.Node{Op: api.OpVar, Name: name, At: at(1, col)}
}

func self(col int) api.Node { return api.Node{Op: api.OpSelf, At: at(1, col)} }

func whole(n int64) api.Value { return api.Value{Kind: api.Int, N: n} }

func dec(units int64) api.Value { return api.Value{Kind: api.Dec, N: units} }

func text(s string) api.Value { return api.Value{Kind: api.Str, S: s} }

func sym(s string) api.Value { return api.Value{Kind: api.Sym, S: s} }

func truth(n int64) api.Value { return api.Value{Kind: api.Bool, N: n} }

func isSameNode(a, b api.Node) bool {
	return a.Op == b.Op && a.V == b.V && a.Name == b.Name && a.At == b.At && slices.Equal(a.Kids, b.Kids)
}

// isEqual asks for places, too.
func isEqual(a, b api.Expr) bool { return slices.EqualFunc(a, b, isSameNode) }

// hold asks that s has these nodes.
func hold(t *testing.T, s string, want ...api.Node) {
	t.Helper()
	x, p, e := Read(s)
	if !isEqual(x, want) || p != (api.Place{}) || e != api.OK {
		t.Errorf("Read(%.300q) = %v, %v, %d; want %v", s, x, p, e, want)
	}
}

// refuse asks that s tells e with that place, and nothing else.
func refuse(t *testing.T, s string, p api.Place, want api.Errno) {
	t.Helper()
	x, q, e := Read(s)
	if x != nil || q != p || e != want {
		t.Errorf("Read(%.300q) = %v, %v, %d; want none, %v, %d", s, x, q, e, p, want)
	}
}

// words are those of a text that layer 6 takes.
func words(t *testing.T, s string) []api.Tok {
	t.Helper()
	l, _, e := lexer.Lex(s)
	if e != api.OK {
		t.Fatalf("Lex(%.300q): %d", s, e)
	}
	return l
}

// holdParse asks of Parse the nodes of want (a text), and how far it goes.
func holdParse(t *testing.T, l []api.Tok, from int, want string, next int) {
	t.Helper()
	x, n, e := Parse(l, from)
	y, _, f := Read(want)
	if f != api.OK {
		t.Fatalf("Read(%q): %d", want, f)
	}
	if !Same(x, y) || n != next || e != api.OK {
		t.Errorf("Parse(%s, %d) = %v, %d, %d; want %v, %d", told(l), from, x, n, e, y, next)
	}
}

// told tells words by their texts, for messages.
func told(l []api.Tok) string {
	var b strings.Builder
	for _, w := range l[:min(len(l), 100)] {
		b.WriteString(" " + strconv.Itoa(int(w.Kind)) + ":" + w.Text)
	}
	return b.String()
}

func refuseParse(t *testing.T, l []api.Tok, from, at int, want api.Errno) {
	t.Helper()
	if x, n, e := Parse(l, from); x != nil || n != at || e != want {
		t.Errorf("Parse(%s, %d) = %v, %d, %d; want none, %d, %d", told(l), from, x, n, e, at, want)
	}
}

// P7.1: atoms

func TestAtoms(t *testing.T) {
	for _, x := range []struct {
		s string
		v api.Value
	}{
		{"0", whole(0)}, {"7", whole(7)}, {"9223372036854775807", whole(9223372036854775807)},
		{"1.5", dec(15000)}, {"0.0", dec(0)}, {"922337203685477.5807", dec(9223372036854775807)},
		{`""`, text("")}, {`"a \"b\" \\"`, text(`a "b" \`)}, {`"true"`, text("true")},
		{"#s", sym("s")}, {"#null", sym("null")}, {"#not", sym("not")},
		{"true", truth(1)}, {"false", truth(0)}, {"null", api.Value{}},
	} {
		hold(t, x.s, lit(x.v, 1))
		hold(t, "  "+x.s+" ;", lit(x.v, 3))
		hold(t, "("+x.s+")", lit(x.v, 2))
		hold(t, "- "+x.s, lit(x.v, 3), node(api.OpNeg, 1, 0))
		hold(t, "not "+x.s, lit(x.v, 5), node(api.OpNot, 1, 0))
		hold(t, "abs("+x.s+")", lit(x.v, 5), node(api.OpAbs, 1, 0))
	}
	hold(t, "?a", variable("a", 1))
	hold(t, "?true", variable("true", 1))
	hold(t, "?abcdefghijkl", variable("abcdefghijkl", 1))
	hold(t, "?", self(1))
	hold(t, " (?)", self(3))
	hold(t, "? = ?a", self(1), variable("a", 5), node(api.OpEq, 3, 0, 1))
}

func TestOtherAtoms(t *testing.T) {
	for _, s := range []string{
		"x", "tru", "trues", "nulls", "nots", "minimum", "if1", "int", "rule", "len", "when",
		"and", "or", "=", "<>", "<", "<=", ">", ">=", "+", "*", "/", ")", ",", ":", "[", "]", "..",
	} {
		refuse(t, s, at(1, 1), api.ErrForm)
		refuse(t, s+" 1", at(1, 1), api.ErrForm)
		refuse(t, "1 + "+s, at(1, 5), api.ErrForm)
		refuse(t, "not "+s, at(1, 5), api.ErrForm)
		refuse(t, "-"+s, at(1, 2), api.ErrForm)
		refuse(t, "abs("+s+")", at(1, 5), api.ErrForm)
		if s != ")" {
			refuse(t, "("+s+")", at(1, 2), api.ErrForm)
		}
	}
	refuse(t, "()", at(1, 2), api.ErrForm)
	refuse(t, "(1,2)", at(1, 3), api.ErrForm)
}

// P7.1: operators

// infixes are the infix operators, by their levels, from the weakest one on.
func infixes() [][]struct {
	s  string
	op uint8
} {
	type row = struct {
		s  string
		op uint8
	}
	return [][]row{
		{{"or", api.OpOr}},
		{{"and", api.OpAnd}},
		{{"=", api.OpEq}, {"<>", api.OpNe}, {"<", api.OpLt}, {"<=", api.OpLe}, {">", api.OpGt}, {">=", api.OpGe}},
		{{"+", api.OpAdd}, {"-", api.OpSub}},
		{{"*", api.OpMul}, {"/", api.OpDiv}},
	}
}

func TestOperators(t *testing.T) {
	for _, level := range infixes() {
		for _, o := range level {
			n := len(o.s)
			hold(t, "1 "+o.s+" ?b", lit(whole(1), 1), variable("b", 4+n), node(o.op, 3, 0, 1))
			hold(t, "? "+o.s+"\n?", self(1), api.Node{Op: api.OpSelf, At: at(2, 1)}, node(o.op, 3, 0, 1))
			hold(t, "-1 "+o.s+" -2", lit(whole(1), 2), node(api.OpNeg, 1, 0), lit(whole(2), 6+n), node(api.OpNeg, 5+n, 2), node(o.op, 4, 1, 3))
			refuse(t, "1 "+o.s, at(1, 3+n), api.ErrForm)
			refuse(t, "1 "+o.s+" ; 2\n", at(1, 3+n), api.ErrForm)
			refuse(t, "1 "+o.s+" )", at(1, 4+n), api.ErrForm)
			refuse(t, "(1 "+o.s+" )", at(1, 5+n), api.ErrForm)
			refuse(t, "1 "+o.s+" * 2", at(1, 4+n), api.ErrForm)
			if o.s != "-" {
				refuse(t, o.s+" 1", at(1, 1), api.ErrForm)
			}
		}
	}
}

func TestLevels(t *testing.T) {
	for i, first := range infixes() {
		for j, second := range infixes() {
			for _, a := range first {
				for _, b := range second {
					s := "1 " + a.s + " 2 " + b.s + " 3"
					p, q := 3, 6+len(a.s)
					one, two, three := lit(whole(1), 1), lit(whole(2), 4+len(a.s)), lit(whole(3), 7+len(a.s)+len(b.s))
					switch {
					case i == 2 && j == 2:
						refuse(t, s, at(1, q), api.ErrForm)
						holdParse(t, words(t, s), 0, "1 "+a.s+" 2", 3)
						hold(t, "("+s[:5+len(a.s)]+")"+s[5+len(a.s):], lit(whole(1), 2), lit(whole(2), 5+len(a.s)), node(a.op, 4, 0, 1), lit(whole(3), 9+len(a.s)+len(b.s)), node(b.op, 8+len(a.s), 2, 3))
					case i < j:
						hold(t, s, one, two, three, node(b.op, q, 1, 2), node(a.op, p, 0, 3))
					default:
						hold(t, s, one, two, node(a.op, p, 0, 1), three, node(b.op, q, 2, 3))
					}
				}
			}
		}
	}
}

func TestOperatorsAhead(t *testing.T) {
	hold(t, "not ?a = ?", variable("a", 5), self(10), node(api.OpEq, 8, 0, 1), node(api.OpNot, 1, 2))
	hold(t, "not ?a and ?b", variable("a", 5), node(api.OpNot, 1, 0), variable("b", 12), node(api.OpAnd, 8, 1, 2))
	hold(t, "?a or not ?b or ?c", variable("a", 1), variable("b", 11), node(api.OpNot, 7, 1), node(api.OpOr, 4, 0, 2), variable("c", 17), node(api.OpOr, 14, 3, 4))
	hold(t, "not not ?", self(9), node(api.OpNot, 5, 0), node(api.OpNot, 1, 1))
	hold(t, "not -?", self(6), node(api.OpNeg, 5, 0), node(api.OpNot, 1, 1))
	hold(t, "not 1 + 2", lit(whole(1), 5), lit(whole(2), 9), node(api.OpAdd, 7, 0, 1), node(api.OpNot, 1, 2))
	hold(t, "--?", self(3), node(api.OpNeg, 2, 0), node(api.OpNeg, 1, 1))
	hold(t, "-? * ?", self(2), node(api.OpNeg, 1, 0), self(6), node(api.OpMul, 4, 1, 2))
	hold(t, "? * -?", self(1), self(6), node(api.OpNeg, 5, 1), node(api.OpMul, 3, 0, 2))
	hold(t, "?--?", self(1), self(4), node(api.OpNeg, 3, 1), node(api.OpSub, 2, 0, 2))
	hold(t, "-?-?", self(2), node(api.OpNeg, 1, 0), self(4), node(api.OpSub, 3, 1, 2))
	hold(t, "-(? - 1)", self(3), lit(whole(1), 7), node(api.OpSub, 5, 0, 1), node(api.OpNeg, 1, 2))
	for _, s := range []string{"not", "-", "not not", "--", "not -", "1 or not", "1 - -", "(not", "abs(-"} {
		refuse(t, s, at(1, 1+len(s)), api.ErrForm)
		refuse(t, s+"\n )", at(2, 2), api.ErrForm)
	}
	refuse(t, "1 + not 2", at(1, 5), api.ErrForm)
	refuse(t, "1 = not 2", at(1, 5), api.ErrForm)
	refuse(t, "1 * not 2", at(1, 5), api.ErrForm)
	refuse(t, "-not 2", at(1, 2), api.ErrForm)
	refuse(t, "not - not 2", at(1, 7), api.ErrForm)
	refuse(t, "1 not 2", at(1, 3), api.ErrForm)
}

func TestTheExamples(t *testing.T) {
	hold(t, "?a + 2 * 3", variable("a", 1), lit(whole(2), 6), lit(whole(3), 10), node(api.OpMul, 8, 1, 2), node(api.OpAdd, 4, 0, 3))
	hold(t, "min(1)", lit(whole(1), 5), node(api.OpMin, 1, 0))
}

// P7.1: parentheses

func TestParentheses(t *testing.T) {
	hold(t, "((?))", self(3))
	hold(t, "(1 - (2 - 3))", lit(whole(1), 2), lit(whole(2), 7), lit(whole(3), 11), node(api.OpSub, 9, 1, 2), node(api.OpSub, 4, 0, 3))
	hold(t, "(1 or 2) and 3", lit(whole(1), 2), lit(whole(2), 7), node(api.OpOr, 4, 0, 1), lit(whole(3), 14), node(api.OpAnd, 10, 2, 3))
	hold(t, "-(not ?)", self(7), node(api.OpNot, 3, 0), node(api.OpNeg, 1, 1))
	hold(t, "1 = (2 = 3)", lit(whole(1), 1), lit(whole(2), 6), lit(whole(3), 10), node(api.OpEq, 8, 1, 2), node(api.OpEq, 3, 0, 3))
	for _, s := range []string{"(", "((", "(1", "((1)", "(1 + 2", "(1 + (2)", "abs(", "abs(1", "abs((1)", "mod(1", "mod(1,", "mod(1, 2", "if(1, 2, 3", "if(1, \"a\""} {
		refuse(t, s, at(1, 1+len(s)), api.ErrForm)
		refuse(t, s+"\n]", at(2, 1), api.ErrForm)
	}
	refuse(t, "(1))", at(1, 4), api.ErrForm)
	refuse(t, "abs(1))", at(1, 7), api.ErrForm)
	refuse(t, "(1)(2)", at(1, 4), api.ErrForm)
	refuse(t, "(1 2)", at(1, 4), api.ErrForm)
	refuse(t, ")(", at(1, 1), api.ErrForm)
}

// "What follows": parentheses change nothing but places.
func TestParenthesesChangePlacesAlone(t *testing.T) {
	for _, s := range []string{"?", "1", "null", "not ?a", "-?a", "?a or ?b", "1 = 2", "1 - 2 - 3", "if(true, ?, -1)", "upper(\"a\") = \"A\" and not ?c"} {
		x, _, e := Read(s)
		y, _, f := Read("(" + s + ")")
		if e != api.OK || f != api.OK || !Same(x, y) {
			t.Errorf("%q: %v, %d; in parentheses %v, %d", s, x, e, y, f)
		}
		for i := range min(len(x), len(y)) {
			if y[i].At != at(1, x[i].At.Col+1) {
				t.Errorf("%q: node %d at %v, in parentheses at %v", s, i, x[i].At, y[i].At)
			}
		}
	}
}

// P7.1: calls

type callRow struct {
	word        string
	op          uint8
	least, most int
}

func callRows() []callRow {
	return []callRow{
		{"abs", api.OpAbs, 1, 1}, {"min", api.OpMin, 1, 8}, {"max", api.OpMax, 1, 8}, {"mod", api.OpMod, 2, 2}, {"length", api.OpLen, 1, 1},
		{"upper", api.OpUp, 1, 1}, {"contains", api.OpHas, 2, 2}, {"starts", api.OpHead, 2, 2}, {"if", api.OpIf, 3, 3},
	}
}

func TestCalls(t *testing.T) {
	for _, c := range callRows() {
		ahead := len(c.word) + 1
		for n := 1; n <= 9; n++ {
			s := c.word + "(1" + strings.Repeat(",1", n-1) + ")"
			var want []api.Node
			var kids []int
			for i := range n {
				want = append(want, lit(whole(1), ahead+1+2*i))
				kids = append(kids, i)
			}
			switch {
			case n < c.least:
				refuse(t, s, at(1, len(s)), api.ErrMany)
				refuse(t, "(-"+s+"))", at(1, 2+len(s)), api.ErrMany)
				refuseParse(t, words(t, s), 0, 2*n+1, api.ErrMany)
			case n > c.most:
				// at the "," that has one too many behind it, whatever else is there
				refuse(t, s, at(1, ahead+2*c.most), api.ErrMany)
				refuse(t, s[:ahead+2*c.most], at(1, ahead+2*c.most), api.ErrMany)
				refuse(t, s[:ahead+2*c.most]+")", at(1, ahead+2*c.most), api.ErrMany)
				refuseParse(t, words(t, s), 0, 2*c.most+1, api.ErrMany)
			default:
				hold(t, s, append(want, node(c.op, 1, kids...))...)
				refuse(t, s[:len(s)-1], at(1, len(s)), api.ErrForm)
				refuse(t, s[:len(s)-1]+",)", at(1, len(s)+btoi(n < c.most)), map[bool]api.Errno{true: api.ErrForm, false: api.ErrMany}[n < c.most])
			}
		}
		refuse(t, c.word, at(1, ahead), api.ErrForm)
		refuse(t, c.word+" 1", at(1, ahead+1), api.ErrForm)
		refuse(t, c.word+")", at(1, ahead), api.ErrForm)
		refuse(t, c.word+"[1]", at(1, ahead), api.ErrForm)
		refuse(t, c.word+"()", at(1, ahead+1), api.ErrForm)
		refuse(t, c.word+"(,1)", at(1, ahead+1), api.ErrForm)
		refuse(t, c.word+"(1 1)", at(1, ahead+3), api.ErrForm)
		refuse(t, c.word+"(1]", at(1, ahead+2), api.ErrForm)
		refuse(t, c.word+"(", at(1, ahead+1), api.ErrForm)
		refuse(t, "?"+c.word+"(1)", at(1, ahead+1), api.ErrForm)
	}
	for _, c := range []string{"not", "neg", "sum", "len", "up", "has", "head", "absolute", "and", "true", "null", "div", "string", "x"} {
		if x, _, e := Read(c + "(1, 2)"); e == api.OK {
			t.Errorf("%s is a call: %v", c, x)
		}
	}
}

func btoi(b bool) int {
	if b {
		return 1
	}
	return 0
}

func TestExpressionsOfCalls(t *testing.T) {
	hold(t, "max(1 or 2, not 3)", lit(whole(1), 5), lit(whole(2), 10), node(api.OpOr, 7, 0, 1), lit(whole(3), 17), node(api.OpNot, 13, 3), node(api.OpMax, 1, 2, 4))
	hold(t, "abs(abs(?)) + 1", self(9), node(api.OpAbs, 5, 0), node(api.OpAbs, 1, 1), lit(whole(1), 15), node(api.OpAdd, 13, 2, 3))
	hold(t, "mod((1), max(2, 3))", lit(whole(1), 6), lit(whole(2), 14), lit(whole(3), 17), node(api.OpMax, 10, 1, 2), node(api.OpMod, 1, 0, 3))
	hold(t, "-upper(?)", self(8), node(api.OpUp, 2, 0), node(api.OpNeg, 1, 1))
	// of calls within calls, each counts its own
	hold(t, "mod(if(1,2,3),4)", lit(whole(1), 8), lit(whole(2), 10), lit(whole(3), 12), node(api.OpIf, 5, 0, 1, 2), lit(whole(4), 15), node(api.OpMod, 1, 3, 4))
	refuse(t, "if(mod(1, 2), 3)", at(1, 16), api.ErrMany)
	refuse(t, "if(mod(1), 2, 3)", at(1, 9), api.ErrMany)
	refuse(t, "abs(mod(1, 2), 3)", at(1, 14), api.ErrMany)
	refuse(t, "1, 2", at(1, 2), api.ErrForm)
	refuse(t, "abs((1, 2))", at(1, 7), api.ErrForm)
	// the first word at which it can't go on is told, not the worse one behind it
	refuse(t, "abs(1, )", at(1, 6), api.ErrMany)
	refuse(t, "mod(1) x", at(1, 6), api.ErrMany)
	refuse(t, "mod(x)", at(1, 5), api.ErrForm)
}

// P7.1: how deep

// opener opens one level, by its first word that can; what closes it.
type opener struct{ open, end string }

func openers() []opener {
	return []opener{{"(", ")"}, {"not ", ""}, {"-", ""}, {"abs(", ")"}, {"min(", ")"}, {"if(1,2,", ")"}, {"upper(", ")"}}
}

// nested has n levels of these, one after the other, around an atom.
func nested(n int, l ...opener) string {
	s, end := "", ""
	for i := range n {
		o := l[i%len(l)]
		s += o.open
		end = o.end + end
	}
	return s + "1" + end
}

func TestDepth(t *testing.T) {
	for _, o := range openers() {
		s := nested(12, o)
		if x, p, e := Read(s); e != api.OK || len(x) == 0 {
			t.Errorf("Read(%q) = %v, %v, %d", s, x, p, e)
		}
		s = nested(13, o)
		word := "("
		if !strings.Contains(o.open, word) {
			word = strings.TrimSpace(o.open)
		}
		col := 12*len(o.open) + strings.Index(o.open, word) + 1
		refuse(t, s, at(1, col), api.ErrDepth)
		cut := s[:col-1+len(word)]
		refuse(t, cut, at(1, col), api.ErrDepth)
		refuse(t, cut+" x )", at(1, col), api.ErrDepth)
	}
	refuse(t, nested(12, opener{"(", ")"})[:12]+"abs", at(1, 16), api.ErrForm)
	refuse(t, nested(12, opener{"(", ")"})[:12]+"abs[", at(1, 16), api.ErrForm)
	refuse(t, strings.Repeat("(", 65536), at(1, 13), api.ErrDepth)
	refuse(t, strings.Repeat("-", 65536), at(1, 13), api.ErrDepth)
}

func TestDepthOfMixed(t *testing.T) {
	not, minus, open, call := opener{"not ", ""}, opener{"-", ""}, opener{"(", ")"}, opener{"max(1,", ")"}
	for _, l := range [][]opener{{not, open}, {open, not}, {minus, open}, {not, minus, open}, {call, not, open, minus}, {open, call}, {open, minus, minus}, {not, minus, call}} {
		s := nested(12, l...)
		if x, p, e := Read(s); e != api.OK || len(x) == 0 {
			t.Errorf("Read(%q) = %v, %v, %d", s, x, p, e)
		}
		if _, _, e := Read(nested(13, l...)); e != api.ErrDepth {
			t.Errorf("Read(%q) = %d", nested(13, l...), e)
		}
	}
}

func TestLevelsThatAreClosed(t *testing.T) {
	deep := nested(11, opener{"(", ")"}) // leaves one
	for _, s := range []string{
		"(1) + (2)", "-1 - -2", "-1 * -2 / -3", "not 1 and not 2 or not 3", "abs(1) + abs(2) * min(3)", "(1) - -2", "not 1 or (2)", "1 - 2 - 3", "min((1), -2, 3, (4), -5)",
		"-1 = -2 and -3 < (4)",
	} {
		if strings.HasPrefix(s, "min((") { // its own parenthesis opens one
			if x, p, e := Read(nested(10, opener{"(", ")"})[:10] + s + strings.Repeat(")", 10)); e != api.OK {
				t.Errorf("%q, 10 deep: %v, %v, %d", s, x, p, e)
			}
			continue
		}
		in := deep[:11] + s + deep[12:]
		x, p, e := Read(in)
		want, _, _ := Read(s)
		if e != api.OK || !Same(x, want) {
			t.Errorf("Read(%q) = %v, %v, %d; want %v", in, x, p, e, want)
		}
		deeper := api.ErrDepth
		if s == "1 - 2 - 3" { // which opens none
			deeper = api.OK
		}
		if _, _, e := Read("(" + in + ")"); e != deeper {
			t.Errorf("Read((%q)) = %d; want %d", in, e, deeper)
		}
	}
	twelve := nested(12, opener{"(", ")"})
	hold(t, twelve[:12]+"1-2"+twelve[13:], lit(whole(1), 13), lit(whole(2), 15), node(api.OpSub, 14, 0, 1))
	refuse(t, twelve[:12]+"1--2"+twelve[13:], at(1, 15), api.ErrDepth)
	refuse(t, twelve[:12]+"1-(2)"+twelve[13:], at(1, 15), api.ErrDepth)
	refuse(t, twelve[:12]+"1+not 2"+twelve[13:], at(1, 15), api.ErrForm)
	refuse(t, twelve[:12]+"1 and not 2"+twelve[13:], at(1, 19), api.ErrDepth)
	refuse(t, twelve[:12]+"mod(1)"+twelve[13:], at(1, 16), api.ErrDepth)
	// one behind the other, as many as there may be each
	s := nested(12, opener{"-", ""}) + "+" + nested(12, opener{"(", ")"}) + "+" + nested(12, opener{"abs(", ")"})
	if x, p, e := Read(s); len(x) != 29 || e != api.OK {
		t.Errorf("Read(%q) = %v, %v, %d", s, x, p, e)
	}
	// what a not has goes up to the next "and"
	refuse(t, strings.Repeat("not ", 12)+"1 + (2)", at(1, 53), api.ErrDepth)
	refuse(t, strings.Repeat("not ", 12)+"1 = -2", at(1, 53), api.ErrDepth)
	if _, _, e := Read(strings.Repeat("not ", 12) + "1 and (2)"); e != api.OK {
		t.Error(e)
	}
}

// P7.1: how many nodes

func TestManyNodes(t *testing.T) {
	for _, x := range []struct {
		s string
		n int
	}{
		{"-1" + strings.Repeat("+1", 29), 60}, {"1" + strings.Repeat("+1", 29), 59}, {"1" + strings.Repeat("+1", 28) + "+(-(1))", 60},
		{"min(" + strings.Repeat("1,", 7) + "max(" + strings.Repeat("-1,", 7) + "1))" + strings.Repeat("*1", 18), 60},
	} {
		y, p, e := Read(x.s)
		if len(y) != x.n || p != (api.Place{}) || e != api.OK {
			t.Errorf("Read(%q) = %d nodes, %v, %d", x.s, len(y), p, e)
		}
	}
	sixty := "-1" + strings.Repeat("+1", 29)
	for _, s := range []string{"-" + sixty, sixty + "+1", "not " + sixty, "abs(" + sixty + ")", "1" + strings.Repeat("+1", 30), "1" + strings.Repeat("+1", 30000)} {
		refuse(t, s, at(1, 1), api.ErrFull)
		refuse(t, " \n  "+s, at(2, 3), api.ErrFull)
		l := append(words(t, "1 ,"), words(t, s)...)
		refuseParse(t, l, 2, 2, api.ErrFull)
		refuseParse(t, append(l, words(t, ") x")...), 2, 2, api.ErrFull)
		// what else is wrong is told first
		refuseParse(t, append(l, words(t, "+ )")...), 2, len(l)+1, api.ErrForm)
		refuseParse(t, append(l, words(t, "+ mod(1)")...), 2, len(l)+4, api.ErrMany)
		refuseParse(t, append(l, words(t, "+ "+strings.Repeat("(", 13))...), 2, len(l)+13-btoi(s[0] == 'n'), api.ErrDepth)
		// but for a word more, of which Parse asks nothing
		refuse(t, s+" 1", at(1, 1), api.ErrFull)
	}
	refuse(t, sixty+" 1", at(1, len(sixty)+2), api.ErrForm)
}

// P7.1: where it begins, how far it goes

func TestParseFrom(t *testing.T) {
	l := words(t, "1 + 2 , ?a = 3 = 4 ) not ?b :")
	holdParse(t, l, 0, "1 + 2", 3)
	refuseParse(t, l, 1, 1, api.ErrForm)
	holdParse(t, l, 2, "2", 3)
	refuseParse(t, l, 3, 3, api.ErrForm)
	holdParse(t, l, 4, "?a = 3", 7)
	refuseParse(t, l, 5, 5, api.ErrForm)
	holdParse(t, l, 6, "3 = 4", 9)
	refuseParse(t, l, 7, 7, api.ErrForm)
	holdParse(t, l, 8, "4", 9)
	refuseParse(t, l, 9, 9, api.ErrForm)
	holdParse(t, l, 10, "not ?b", 12)
	holdParse(t, l, 11, "?b", 12)
	refuseParse(t, l, 12, 12, api.ErrForm)
	refuseParse(t, l, len(l), len(l), api.ErrForm)
	for _, from := range []int{-1, -2, len(l) + 1, len(l) + 2, 1 << 40, -1 << 63, 1<<63 - 1} {
		refuseParse(t, l, from, 0, api.ErrArg)
		refuseParse(t, nil, from, 0, api.ErrArg)
	}
	refuseParse(t, nil, 0, 0, api.ErrForm)
	refuseParse(t, []api.Tok{}, 0, 0, api.ErrForm)
	refuseParse(t, nil, 1, 0, api.ErrArg)
}

func TestParseGoesOnAsLongAsItCan(t *testing.T) {
	for _, x := range []struct {
		s, want string
		next    int
	}{
		{"1 2", "1", 1}, {"1 )", "1", 1}, {"1 , 2", "1", 1}, {"1 .. 2", "1", 1}, {"1 not 2", "1", 1}, {"1 ?", "1", 1}, {"1 : 2", "1", 1}, {"1 ( 2", "1", 1}, {"1 [ 2", "1", 1}, {"1 x", "1", 1}, {"? ?a", "?", 1}, {"1 \"+\"", "1", 1}, {"1 #or", "1", 1}, {"1 ?or 2", "1", 1},
		{"1 < 2 > 3", "1 < 2", 3}, {"1 = 2 = 3", "1 = 2", 3}, {"not 1 = 2 <> 3", "not 1 = 2", 4}, {"1 or 2 = 3 = 4", "1 or 2 = 3", 5}, {"(1) 2", "1", 3}, {"abs(1) abs(2)", "abs(1)", 4}, {"-1 true", "-1", 2},
		{"1 + 2 then", "1 + 2", 3}, {"1 end", "1", 1},
	} {
		holdParse(t, words(t, x.s), 0, x.want, x.next)
		holdParse(t, append(words(t, "( x"), words(t, x.s)...), 2, x.want, x.next+2)
	}
	for s, n := range map[string]int{"1 +": 2, "1 + )": 2, "1 or x": 2, "1 = = 2": 2, "1 and and 2": 2, "1 < 2 > 3 +": -1, "1 - *": 2, "not": 1, "abs": 1, "abs 1": 1, "abs (": 2, "( 1": 2, "( 1 = 2 = 3 )": 4, "abs ( 1 = 2 = 3 )": 5} {
		if n < 0 {
			holdParse(t, words(t, s), 0, "1 < 2", 3)
			continue
		}
		refuseParse(t, words(t, s), 0, n, api.ErrForm)
	}
}

// P7.1: words by their kinds and texts alone

func name(s string) api.Tok { return api.Tok{Kind: api.TokName, Text: s} }

func sign(s string) api.Tok { return api.Tok{Kind: api.TokSign, Text: s} }

// kinded has the words of s, with those of that text made words of that kind.
func kinded(t *testing.T, s, text string, kind uint8) []api.Tok {
	t.Helper()
	l := words(t, s)
	for i := range l {
		if l[i].Text == text {
			l[i].Kind = kind
		}
	}
	return l
}

func TestWordsOfEitherKind(t *testing.T) {
	for _, level := range infixes() {
		for _, o := range level {
			s := "1 " + o.s + " 2"
			for _, kind := range []uint8{api.TokName, api.TokSign} {
				holdParse(t, kinded(t, s, o.s, kind), 0, s, 3)
			}
			for _, kind := range []uint8{0, api.TokVar, api.TokSelf, api.TokNumber, api.TokString, api.TokSym, 8, 255} {
				holdParse(t, kinded(t, s, o.s, kind), 0, "1", 1)
			}
		}
	}
	for _, x := range []struct{ s, word string }{
		{"not 1", "not"}, {"-1", "-"}, {"(1)", ")"}, {"min(1, 2)", ")"}, {"min(1, 2)", ","}, {"min(1, 2)", "("}, {"not not 1", "not"}, {"1--1", "-"},
	} {
		for _, kind := range []uint8{api.TokName, api.TokSign} {
			l := kinded(t, x.s, x.word, kind)
			holdParse(t, l, 0, x.s, len(l))
		}
		for _, kind := range []uint8{0, api.TokVar, api.TokSelf, api.TokNumber, api.TokString, api.TokSym, 8, 255} {
			l := kinded(t, x.s, x.word, kind)
			if y, n, e := Parse(l, 0); e == api.OK && n == len(l) {
				t.Errorf("Parse(%v, 0) = %v", l, y)
			}
		}
	}
}

func TestAtomsOfOneKindAlone(t *testing.T) {
	holdParse(t, []api.Tok{sign("("), self0(), sign(")")}, 0, "?", 3)
	holdParse(t, []api.Tok{sign("("), self0(), name(")")}, 0, "?", 3)
	for _, kind := range []uint8{0, api.TokName, 8, 255} {
		refuseParse(t, []api.Tok{{Kind: kind, Text: "("}, self0(), sign(")")}, 0, 0, api.ErrForm)
	}
	rows := []string{"true", "false", "null"}
	for _, c := range callRows() {
		rows = append(rows, c.word)
		for _, n := range []uint8{api.TokName, api.TokSign} {
			l := []api.Tok{name(c.word), {Kind: n, Text: "("}}
			for range c.least {
				l = append(l, self0(), sign(","))
			}
			l[len(l)-1] = sign(")")
			if x, next, e := Parse(l, 0); e != api.OK || next != len(l) || x[len(x)-1].Op != c.op {
				t.Errorf("Parse(%v, 0) = %v, %d, %d", l, x, next, e)
			}
			l[0] = sign(c.word)
			refuseParse(t, l, 0, 0, api.ErrForm)
		}
		refuseParse(t, []api.Tok{name(c.word), {Kind: api.TokVar, Text: "("}, self0(), sign(")")}, 0, 1, api.ErrForm)
	}
	for _, s := range rows {
		for _, kind := range []uint8{0, api.TokSign, 8, 255} {
			refuseParse(t, []api.Tok{{Kind: kind, Text: s}}, 0, 0, api.ErrForm)
		}
	}
	for _, kind := range []uint8{0, api.TokName, api.TokSign, 8, 77, 255} {
		for _, s := range []string{"", "x", "True", "1", "?", "?a", "( ", "--", "not "} {
			refuseParse(t, []api.Tok{{Kind: kind, Text: s, V: whole(1)}}, 0, 0, api.ErrForm)
			holdParse(t, []api.Tok{self0(), {Kind: kind, Text: s}}, 0, "?", 1)
		}
	}
}

func self0() api.Tok { return api.Tok{Kind: api.TokSelf} }

// What a word's value is, and what text a variable has, is not asked.
func TestAnyWordsAreTaken(t *testing.T) {
	values := []api.Value{{}, whole(-5), dec(-1), {Kind: 255, N: 7, S: "x"}, {Kind: api.Sym, S: "No Name"}, text(strings.Repeat("\xff", 300))}
	texts := []string{"", "or", "(", "no name", strings.Repeat("x", 300)}
	for _, v := range values {
		for _, s := range texts {
			place := api.Place{Line: -3, Col: 1 << 62}
			for _, kind := range []uint8{api.TokNumber, api.TokString, api.TokSym} {
				holdOne(t, api.Tok{Kind: kind, Text: s, V: v, At: place}, api.Node{Op: api.OpLit, V: v, At: place})
			}
			holdOne(t, api.Tok{Kind: api.TokVar, Text: s, V: v, At: place}, api.Node{Op: api.OpVar, Name: s, At: place})
			holdOne(t, api.Tok{Kind: api.TokSelf, Text: s, V: v, At: place}, api.Node{Op: api.OpSelf, At: place})
			holdOne(t, api.Tok{Kind: api.TokName, Text: "true", V: v, At: place}, api.Node{Op: api.OpLit, V: truth(1), At: place})
			holdOne(t, api.Tok{Kind: api.TokName, Text: "null", V: v, At: place}, api.Node{Op: api.OpLit, At: place})
		}
	}
}

func holdOne(t *testing.T, w api.Tok, want api.Node) {
	t.Helper()
	x, n, e := Parse([]api.Tok{w}, 0)
	if !isEqual(x, api.Expr{want}) || n != 1 || e != api.OK {
		t.Errorf("Parse(%v) = %v, %d, %d; want %v", w, x, n, e, want)
	}
}

// P7.2

func TestRead(t *testing.T) {
	refuse(t, "", at(1, 1), api.ErrForm)
	refuse(t, " \n ; a\n", at(1, 1), api.ErrForm)
	refuse(t, "1 2", at(1, 3), api.ErrForm)
	refuse(t, "1 2 3", at(1, 3), api.ErrForm)
	refuse(t, "?a\n\n  )", at(3, 3), api.ErrForm)
	refuse(t, "1 = 2 = 3", at(1, 7), api.ErrForm)
	refuse(t, "1 , 2", at(1, 3), api.ErrForm)
	refuse(t, "x\n", at(1, 1), api.ErrForm)
	refuse(t, "\n 1 +\n\n", at(2, 5), api.ErrForm)
	refuse(t, "1 + ; 2", at(1, 4), api.ErrForm)
	refuse(t, "\n\nabs(1,\n 2)", at(3, 6), api.ErrMany)
	refuse(t, "\nmod(\n1\n  )", at(4, 3), api.ErrMany)
	refuse(t, "((((((((((((\n(1", at(2, 1), api.ErrDepth)
	// behind the last word, as it is written
	for _, s := range []string{"(?abc", "(?", "(\"a\\\"b\"", "(\"\"", "(#sym", "(1.25", "(true", "abs", "1 <=", "1 or", "mod(1,"} {
		refuse(t, s, at(1, 1+len(s)), api.ErrForm)
		refuse(t, "\n "+s+"  ; x\n", at(2, 2+len(s)), api.ErrForm)
	}
}

// What layer 6 tells is told first, with its place.
func TestReadOfWhatIsNoWords(t *testing.T) {
	refuse(t, "1 + !", at(1, 5), api.ErrForm)
	refuse(t, "+ + \n !", at(2, 2), api.ErrForm)
	refuse(t, "1 2 \"", at(1, 5), api.ErrForm)
	refuse(t, "1 + 1.50", at(1, 5), api.ErrForm)
	refuse(t, "1 + 01", at(1, 5), api.ErrForm)
	refuse(t, "x 9223372036854775808", at(1, 3), api.ErrOver)
	refuse(t, "mod(1) ?abcdefghijklm", at(1, 8), api.ErrForm)
	refuse(t, strings.Repeat("(", 65537), api.Place{}, api.ErrLong)
	refuse(t, strings.Repeat(" ", 65537), api.Place{}, api.ErrLong)
	refuse(t, "1"+strings.Repeat(" ", 65536), api.Place{}, api.ErrLong)
	hold(t, "1"+strings.Repeat(" ", 65535), lit(whole(1), 1))
}

// P7.3: Same

// sample is a tree of each kind of part.
func sample() api.Expr {
	return api.Expr{
		{Op: api.OpLit, V: api.Value{Kind: api.Str, N: 0, S: "a"}, At: at(1, 1)},
		{Op: api.OpVar, Name: "x", At: at(1, 2)},
		{Op: api.OpSelf, At: at(1, 3)},
		{Op: api.OpIf, Kids: []int{0, 1, 2}, At: at(2, 4)},
	}
}

func same(t *testing.T, a, b api.Expr, want bool) {
	t.Helper()
	if Same(a, b) != want || Same(b, a) != want {
		t.Errorf("Same(%v, %v): want %v", a, b, want)
	}
}

func TestSame(t *testing.T) {
	same(t, nil, nil, true)
	same(t, nil, api.Expr{}, true)
	same(t, nil, sample(), false)
	same(t, sample(), sample(), true)
	for i := range sample() {
		for _, change := range []func(n *api.Node){
			func(n *api.Node) { n.Op++ },
			func(n *api.Node) { n.Op = 255 },
			func(n *api.Node) { n.V.Kind++ },
			func(n *api.Node) { n.V.N++ },
			func(n *api.Node) { n.V.N-- },
			func(n *api.Node) { n.V.S += "x" },
			func(n *api.Node) { n.V.S = "b" },
			func(n *api.Node) { n.Name += "x" },
			func(n *api.Node) { n.Name = "y" },
			func(n *api.Node) { n.Kids = append(n.Kids, 0) },
			func(n *api.Node) { n.Kids = []int{1} },
		} {
			x := sample()
			change(&x[i])
			same(t, x, sample(), false)
			same(t, x, x, true)
		}
		x := sample()
		x[i].At.Line++
		same(t, x, sample(), true)
		x[i].At = api.Place{Line: -1, Col: 1 << 62}
		same(t, x, sample(), true)
		same(t, x[:i], sample(), false)
		same(t, append(sample(), x[i]), sample(), false)
		x[i].Kids = append([]int{}, x[i].Kids...)
		same(t, x, sample(), true)
	}
	for i := range 3 {
		for _, kid := range []int{-1, 4, 1 << 62, -1 << 63} {
			x, y := sample(), sample()
			x[3].Kids[i] = kid
			same(t, x, y, false)
			y[3].Kids[i] = kid
			same(t, x, y, true)
		}
	}
	x := sample()
	x[3].Kids = []int{1, 0, 2}
	same(t, x, sample(), false)
	x[3].Kids = x[3].Kids[:2]
	same(t, x, sample(), false)
	x[3].Kids = nil
	same(t, x, sample(), false)
	x = sample()
	x[0], x[1] = x[1], x[0]
	same(t, x, sample(), false)
}

func TestSameOfTexts(t *testing.T) {
	for _, x := range []struct {
		a, b string
		want bool
	}{
		{"1+2", " 1 + \n (2)", true}, {"1", "1.0", false}, {"1", "\"1\"", false}, {"#a", "\"a\"", false}, {"?a", "?b", false}, {"?", "?a", false}, {"true", "false", false}, {"null", "false", false},
		{"1-2-3", "(1-2)-3", true}, {"1-2-3", "1-(2-3)", false}, {"min(1,2)", "max(1,2)", false}, {"min(1,2)", "min(2,1)", false}, {"min(1)", "min(1,1)", false}, {"not 1 = 2", "not (1 = 2)", true}, {"1<2", "2>1", false},
	} {
		a, _, e := Read(x.a)
		b, _, f := Read(x.b)
		if e != api.OK || f != api.OK {
			t.Fatal(x, e, f)
		}
		same(t, a, b, x.want)
	}
}

// P7.3: Behind

func TestBehind(t *testing.T) {
	for _, l := range [][]api.Tok{nil, {}} {
		if p := Behind(l); p != at(1, 1) {
			t.Errorf("Behind(%v) = %v", l, p)
		}
	}
	for _, s := range []string{
		"a", "abcdefghijkl", "not", "?a", "?abcdefghijkl", "?", "0", "12345", "1.25", `""`, `"a b"`, `"\"\\"`, "#a", "#abcdefghijkl",
		"<=", ">=", "<>", "..", "(", ")", "[", "]", ",", ":", "=", "<", ">", "+", "-", "*", "/",
	} {
		for _, ahead := range []string{"", "  ", "? ", "\n", "a\n b ", "\"\n\"\n"} {
			l, _, e := lexer.Lex(ahead + s + " ; x\n")
			if e != api.OK {
				continue
			}
			line := 1 + strings.Count(ahead, "\n")
			col := len(ahead) - strings.LastIndex(ahead, "\n") + len(s)
			if p := Behind(l); p != at(line, col) {
				t.Errorf("Behind(Lex(%q)) = %v; want %v", ahead+s, p, at(line, col))
			}
		}
	}
}

// Of words that layer 6 does not tell, nothing but an end is asked.
func TestBehindOfAnyWords(t *testing.T) {
	for kind := range 256 {
		for _, s := range []string{"", "a", strings.Repeat("x", 300)} {
			w := api.Tok{Kind: uint8(kind), Text: s, At: at(7, 9)}
			col := 9 + len(s)
			switch uint8(kind) {
			case api.TokVar, api.TokSym:
				col++
			case api.TokString:
				col += 2
			case api.TokSelf:
				col = 10
			}
			if p := Behind([]api.Tok{{Kind: api.TokString, Text: "abc", At: at(8, 80)}, w}); p != at(7, col) {
				t.Errorf("Behind(%v) = %v; want %v", w, p, at(7, col))
			}
		}
	}
}

// Rules: what is handed in, what is told

func TestWordsAreNotChanged(t *testing.T) {
	for _, s := range []string{"1 + ?a * min(\"x\", #y, null)", "1 +", "mod(1)", "((((((((((((((", "1 2"} {
		l := words(t, s)
		mine := slices.Clone(l)
		Parse(l, 0)
		Behind(l)
		if !slices.Equal(l, mine) {
			t.Errorf("%q: %v", s, l)
		}
	}
	a, b := sample(), sample()
	Same(a, b)
	if !isEqual(a, sample()) || !isEqual(b, sample()) {
		t.Error(a, b)
	}
}

func TestWordsAreNotKept(t *testing.T) {
	s := []byte("var sym str")
	part := func(i, j int) string { return unsafe.String(&s[i], j-i) }
	l := []api.Tok{
		name("if"), sign("("), {Kind: api.TokVar, Text: part(0, 3)}, sign(","), {Kind: api.TokSym, V: sym(part(4, 7))}, sign(","), {Kind: api.TokString, V: text(part(8, 11))}, sign(")"),
	}
	x, _, e := Parse(l, 0)
	for i := range s {
		s[i] = '!'
	}
	for i := range l {
		l[i] = api.Tok{}
	}
	if e != api.OK || x[0].Name != "var" || x[1].V != sym("sym") || x[2].V != text("str") {
		t.Error(x, e)
	}
}

func TestAnswersAreApart(t *testing.T) {
	l := words(t, "min(?a + 1, not ?, -2) = max(3, 4, 5)")
	x, _, _ := Parse(l, 0)
	want, _, _ := Parse(l, 0)
	y, _, _ := Parse(l, 0)
	for i := range x {
		kids := x[i].Kids
		x[i] = api.Node{}
		for j := range kids {
			kids[j] = -7
		}
		_ = append(kids, -8)
		for k := i + 1; k < len(x); k++ {
			if !isSameNode(x[k], want[k]) {
				t.Fatalf("node %d changes node %d: %v", i, k, x[k])
			}
		}
	}
	_ = append(x, api.Node{Op: 99})
	if !isEqual(y, want) {
		t.Error(y)
	}
}
