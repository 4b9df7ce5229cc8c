package table

import (
	"fmt"
	"math/rand"
	"reflect"
	"strings"
	"testing"

	"witan/api"
	"witan/expr"
	"witan/lexer"
	"witan/unary"
)

// writer makes a table by chance, and the words of a text of it. A place of the
// table is at first that of a word: its number, in Col.
type writer struct {
	*rand.Rand
	words []string
	a     api.Table
	tests []written[*api.Tests]
	exprs []written[*api.Expr]
}

// written is where tests or an expression are to stand, and which words are
// theirs: from the first one up to the one behind them.
type written[T any] struct {
	to        T
	from, end int
}

func (w *writer) put(words ...string) api.Place {
	at := api.Place{Col: len(w.words)}
	w.words = append(w.words, words...)
	return at
}

func (w *writer) oneOf(l ...string) string { return l[w.Intn(len(l))] }

func (w *writer) name() string {
	return w.oneOf("a", "b", "t", "x1", "int", "sym", "bool", "rows", "ends", "ins", "first", "any", "sum", "order", "abcdefghijkl", "z9")
}

// size tells how many, mostly few, of at most so many.
func (w *writer) size(least, most int) int {
	switch w.Intn(8) {
	case 0:
		return least
	case 1:
		return most
	}
	return least + w.Intn(min(most-least, 2)+1)
}

func (w *writer) value() {
	l := []struct {
		words string
		v     api.Value
	}{
		{"1", api.Value{Kind: 1, N: 1}}, {"- 1", api.Value{Kind: 1, N: -1}}, {"- 0", api.Value{Kind: 1}}, {"9223372036854775807", api.Value{Kind: 1, N: 1<<63 - 1}}, {"- 9223372036854775807", api.Value{Kind: 1, N: 1 - 1<<63}},
		{"1.5", api.Value{Kind: 2, N: 15000}}, {"- 0.0001", api.Value{Kind: 2, N: -1}}, {"\"in\"", api.Value{Kind: 3, S: "in"}}, {"true", api.Value{Kind: 4, N: 1}}, {"false", api.Value{Kind: 4}}, {"#in", api.Value{Kind: 5, S: "in"}},
	}
	x := l[w.Intn(len(l))]
	w.put(strings.Split(x.words, " ")...)
	w.a.Order = append(w.a.Order, x.v)
}

func (w *writer) slots() []api.Slot {
	var l []api.Slot
	for range w.size(1, 4) {
		k := w.Intn(5)
		l = append(l, api.Slot{Name: w.name(), Kind: uint8(k + 1)})
		w.put(l[len(l)-1].Name, ":", kindNames[k+1])
	}
	return l
}

func (w *writer) test(to *api.Tests) {
	s := w.oneOf("1", "-", "- 1", "?n", "> 1", "<= ?n + 1", "= \"row\"", "[ 1 .. 2 ]", "( ?n .. 2 )", "( 1 )", "not ( 1 )", "not ( - , 1 )", "not ( not ( not ( not ( 1 ) ) ) )", "#a", "null", "\",y:1\"", "[ - 1 .. ? )", "not true", "min ( 1 , 2 )", "( ( 1 ) )", "not ( 1 , #row , 2 )")
	from := len(w.words)
	w.put(strings.Split(s, " ")...)
	w.tests = append(w.tests, written[*api.Tests]{to, from, len(w.words)})
}

func (w *writer) expr(to *api.Expr) {
	s := w.oneOf("1", "1.5", "\"u\"", "\"end\"", "#end", "?n", "?", "true", "null", "- 1", "( 1 )", "not ?n", "?n + 1 * 2", "( ?n - 1 ) / 2 >= 3", "min ( 1 , 2 , 3 )", "length ( \"(\" ) = 1 and ?", "if ( ?row , 1 , - - 2 )", "contains ( \"a\" , \"b\" ) or false", "( ( ( 1 ) ) )", "#rule <> ?end")
	from := len(w.words)
	w.put(strings.Split(s, " ")...)
	w.exprs = append(w.exprs, written[*api.Expr]{to, from, len(w.words)})
}

func (w *writer) row(r *api.Row) {
	r.At = w.put("row")
	r.Tests = make([]api.Tests, len(w.a.In))
	r.Outs = make([]api.Expr, len(w.a.Out))
	for i := range r.Tests {
		if i > 0 {
			w.put(",")
		}
		w.test(&r.Tests[i])
	}
	w.put(":")
	for i := range r.Outs {
		if i > 0 {
			w.put(",")
		}
		w.expr(&r.Outs[i])
	}
}

func (w *writer) table(rows int) {
	w.a.Name = w.name()
	w.a.Policy = uint8(1 + w.Intn(10))
	if w.Intn(4) == 0 {
		w.a.Policy = api.PolPriority
	}
	w.a.At = w.put("table", w.a.Name, policyNames[w.a.Policy])
	if w.a.Policy == api.PolPriority {
		for range w.size(1, 32) {
			w.value()
		}
	}
	w.put("in")
	w.a.In = w.slots()
	w.put("out")
	w.a.Out = w.slots()
	w.a.Rows = make([]api.Row, w.size(0, rows))
	for i := range w.a.Rows {
		w.row(&w.a.Rows[i])
	}
	w.put("end")
}

// isSplit tells whether two words have to stand apart.
func isSplit(a, b string) bool {
	l, _, e := lexer.Lex(a + b)
	m, _, f := lexer.Lex(a + " " + b)
	return e != f || len(l) != len(m) || e == 0 && (l[0].Kind != m[0].Kind || l[0].Text != m[0].Text)
}

// lay lays words out with blanks, line ends and remarks by chance, and tells
// the text and each word's place.
func lay(r *rand.Rand, words []string) (string, []api.Place) {
	var s strings.Builder
	var places []api.Place
	line, col := 1, 1
	put := func(x string) {
		s.WriteString(x)
		for _, b := range []byte(x) {
			col++
			if b == '\n' {
				line, col = line+1, 1
			}
		}
	}
	between := func() {
		for r.Intn(3) == 0 {
			put([]string{" ", "  ", "\n", "\n\n  ", " ; a remark, \"(\" %\n", ";\n"}[r.Intn(6)])
		}
	}
	last := ""
	for _, w := range words {
		if last != "" && isSplit(last, w) {
			put([]string{" ", "\n", ";row\n", "   "}[r.Intn(4)])
		}
		between()
		places = append(places, api.Place{Line: line, Col: col})
		put(w)
		last = w
	}
	between()
	return s.String(), places
}

// P15.1: what is read of tables that were made by chance is they.
func TestTablesByChance(t *testing.T) {
	r := rand.New(rand.NewSource(12))
	for range 1200 {
		w := &writer{Rand: r}
		w.table(32)
		s, places := lay(r, w.words)
		l, _, e := lexer.Lex(s)
		if e != 0 || len(l) != len(w.words) {
			t.Fatalf("%q: %d words of %d, %d", s, len(l), len(w.words), e)
		}
		for _, x := range w.exprs {
			y, n, e := expr.Parse(l, x.from)
			if e != 0 || n != x.end {
				t.Fatalf("%q: the expression at word %d: %d, %d", s, x.from, n, e)
			}
			*x.to = y
		}
		for _, x := range w.tests {
			y, n, e := unary.One(l, x.from)
			if e != 0 || n != x.end {
				t.Fatalf("%q: the test at word %d: %d, %d", s, x.from, n, e)
			}
			*x.to = y
		}
		w.a.At = places[w.a.At.Col]
		for i := range w.a.Rows {
			w.a.Rows[i].At = places[w.a.Rows[i].At.Col]
		}
		a, at, e := Parse(s)
		if e != 0 || at != (api.Place{}) || whole(a) != whole(w.a) {
			t.Fatalf("Parse(%q) = %v, %v, %d; want %v", s, a, at, e, w.a)
		}
		if b, _, _ := Parse(strings.Join(w.words, " ")); !Same(a, b) || !Same(b, a) {
			t.Fatalf("%q is another table with blanks alone between", s)
		}
		holdModel(t, s)
	}
}

// whole tells all of a table, places too; lists that are not there as empty ones.
func whole(a api.Table) string { return fmt.Sprintf("%v", a) }

// holdModel asks that Parse answers as the model does.
func holdModel(t *testing.T, s string) {
	t.Helper()
	a, at, e := Parse(s)
	b, place, f := model(s)
	if e != f || at != place || !reflect.DeepEqual(a, b) {
		t.Fatalf("Parse(%q) = %v, %v, %d; want %v, %v, %d", s, a, at, e, b, place, f)
	}
}

// vocabulary is each word of the grammar, and some of each other kind.
var vocabulary = strings.Split("table in out row end unique first priority any order collect sum min max count int sym a b int1 5 1.5 \"a\" \"in\" \"(\" #row ?end ? ( ) [ ] : , - = < .. + true false null not", " ")

// P15.1: each text of tables made by chance, cut behind each word, and with a
// word or two put in, left out or changed, is answered as the model does.
func TestFaultsByChance(t *testing.T) {
	r := rand.New(rand.NewSource(13))
	for range 150 {
		w := &writer{Rand: r}
		w.table(4)
		for i := range w.words {
			holdModel(t, strings.Join(w.words[:i], " "))
		}
		for range 60 {
			l := append([]string(nil), w.words...)
			for range 1 + r.Intn(2) {
				i := r.Intn(len(l) + 1)
				switch k := r.Intn(4); {
				case k == 0 || i == len(l):
					l = append(l[:i:i], append([]string{w.oneOf(vocabulary...)}, l[i:]...)...)
				case k == 1:
					l = append(l[:i:i], l[i+1:]...)
				case k == 2:
					l[i] = w.oneOf(vocabulary...)
				default:
					j := r.Intn(len(l))
					l[i], l[j] = l[j], l[i]
				}
			}
			holdModel(t, strings.Join(l, " "))
		}
	}
}

// P15.1: tables of each form of the grammar, with each word of the vocabulary
// at each of their words' places, ahead of it and in its stead.
func TestEachWordAtEachPlace(t *testing.T) {
	for _, s := range []string{
		"table t priority 1 - 2.5 \"u\" #s true in x : int y : str out z : dec w : sym row > 1 , not ( 2 , 3 ) : ?x + 1 , #s row - , [ 1 .. 2 ) : min ( 1 , 2 ) , ( 3 ) end",
		"table t any in x : int out y : int row - : - 1 row - 1 : 1 end",
		"table t sum in a : int b : int c : int d : int out a : int b : int c : int d : int row - , - , - , - : 1 , 2 , 3 , 4 end",
		"table t first in x : bool out y : bool end",
	} {
		words := strings.Split(s, " ")
		holdModel(t, s)
		if _, at, e := Parse(s); e != 0 {
			t.Fatalf("%v, %d", at, e)
		}
		for i := range words {
			ahead, behind := strings.Join(words[:i], " ")+" ", " "+strings.Join(words[i:], " ")
			holdModel(t, ahead)
			holdModel(t, ahead+strings.Join(words[i+1:], " "))
			for _, w := range vocabulary {
				holdModel(t, ahead+w)
				holdModel(t, ahead+w+behind)
				holdModel(t, ahead+w+" "+strings.Join(words[i+1:], " "))
			}
		}
	}
}

// P15.1: all short rows of words behind beginnings of each kind.
func TestShortRows(t *testing.T) {
	few := strings.Split("in out row end first int a 5 \"a\" ( : , - true", " ")
	for _, ahead := range []string{
		"", "table", "table t", "table t priority", "table t priority 1", "table t priority -", "table t any in", "table t any in x", "table t any in x : int", "table t any in x : int out", "table t any in x : int out y : int",
		"table t any in x : int out y : int row", "table t any in x : int out y : int row 1", "table t any in x : int z : int out y : int row 1", "table t any in x : int z : int out y : int row 1 , 2", "table t any in x : int out y : int z : int row 1 : 1", "table t any in x : int out y : int row 1 : 1", "table t any in x : int out y : int end",
	} {
		for _, x := range few {
			for _, y := range few {
				for _, z := range few {
					holdModel(t, ahead+" "+x+" "+y+" "+z)
				}
			}
		}
	}
	for _, ahead := range []string{
		"table t priority " + numbered(31, " ", "1"), "table t priority " + numbered(32, " ", "1"), "table t any in " + numbered(3, " ", "x : int"), "table t any in " + numbered(4, " ", "x : int"),
		"table t any in x : int out " + numbered(3, " ", "y : int"), "table t any in x : int out " + numbered(4, " ", "y : int"), head + " " + numbered(31, " ", "row 1 : 1"), head + " " + numbered(32, " ", "row 1 : 1"), wide(4, 4) + " row 1 , 2 , 3", wide(4, 4) + " row 1 , 2 , 3 , 4", wide(4, 4) + " row 1 , 2 , 3 , 4 : 1 , 2 , 3", wide(4, 4) + " row 1 , 2 , 3 , 4 : 1 , 2 , 3 , 4",
	} {
		for _, x := range few {
			for _, y := range few {
				holdModel(t, ahead+" "+x+" "+y)
				holdModel(t, ahead+" , "+x+" "+y)
				holdModel(t, ahead+" "+x+" "+y+" : 1")
			}
		}
	}
}
