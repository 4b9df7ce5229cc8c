package rule

import (
	"fmt"
	"math/rand"
	"reflect"
	"strings"
	"testing"

	"witan/api"
	"witan/expr"
	"witan/lexer"
	"witan/unary"
)

// writer makes a program by chance, and the words of a text of it. A place in
// the program is at first that of a word: its number, in Col.
type writer struct {
	*rand.Rand
	words []string
	p     api.Program
	exprs []written[*api.Expr]
	tests []written[*api.Tests]
}

// written is where an expression or tests are to stand, and which words are
// theirs: from the first one up to the one behind them.
type written[T any] struct {
	to        T
	from, end int
}

func (w *writer) put(words ...string) api.Place {
	at := api.Place{Col: len(w.words)}
	w.words = append(w.words, words...)
	return at
}

func (w *writer) oneOf(l ...string) string { return l[w.Intn(len(l))] }

func (w *writer) name() string {
	return w.oneOf("a", "b", "p", "x1", "int", "sym", "bool", "rules", "ends", "whens", "tests", "nots", "abcdefghijkl", "z9")
}

// size tells how many, mostly few, of at most so many.
func (w *writer) size(least, most int) int {
	switch w.Intn(6) {
	case 0:
		return least
	case 1:
		return most
	}
	return least + w.Intn(min(most-least, 2)+1)
}

func (w *writer) expr(to *api.Expr) {
	s := w.oneOf("1", "1.5", "\"u\"", "\"then\"", "#end", "?n", "?", "true", "null", "- 1", "( 1 )", "not ?n", "?n + 1 * 2", "( ?n - 1 ) / 2 >= 3", "min ( 1 , 2 , 3 )", "length ( \"(\" ) = 1 and ?", "if ( ?then , 1 , - - 2 )", "contains ( \"a\" , \"b\" ) or false", "( ( ( 1 ) ) )", "#rule <> ?rule")
	from := len(w.words)
	w.put(strings.Split(s, " ")...)
	w.exprs = append(w.exprs, written[*api.Expr]{to, from, len(w.words)})
}

func (w *writer) test(to *api.Tests) {
	s := w.oneOf("1", "-", "- 1", "?n", "> 1", "<= ?n + 1", "= \"when\"", "[ 1 .. 2 ]", "( ?n .. 2 )", "( 1 )", "not ( 1 )", "not ( - , 1 )", "1 , 2", "- , - , > 3", "not ( not ( not ( not ( 1 ) ) ) )", "#a , null , \",y:1\"", "( ( 1 ) ) , [ - 1 .. ? )", "not true", "min ( 1 , 2 ) , 3")
	from := len(w.words)
	w.put(strings.Split(s, " ")...)
	w.tests = append(w.tests, written[*api.Tests]{to, from, len(w.words)})
}

func (w *writer) template() {
	t := api.Template{Name: w.name()}
	w.p.At = append(w.p.At, w.put("template", t.Name))
	for range w.size(1, 8) {
		k := w.Intn(5)
		s := api.Slot{Name: w.name(), Kind: uint8(k + 1)}
		w.put(s.Name, ":", []string{"int", "dec", "str", "bool", "sym"}[k])
		t.Slots = append(t.Slots, s)
	}
	w.p.Templates = append(w.p.Templates, t)
}

func (w *writer) rule(r *api.Rule) {
	r.Name = w.name()
	r.At = w.put("rule", r.Name)
	switch r.Salience = w.Intn(201) - 100; {
	case w.Intn(2) == 0:
		r.Salience = 0
	case r.Salience < 0:
		w.put("-", fmt.Sprint(-r.Salience))
	default:
		w.put(fmt.Sprint(r.Salience))
	}
	w.put("when")
	r.Conds = make([]api.Cond, w.size(0, 6))
	for i := range r.Conds {
		w.cond(&r.Conds[i])
	}
	w.put("then")
	r.Acts = make([]api.Action, w.size(0, 8))
	for i := range r.Acts {
		w.action(&r.Acts[i])
	}
	w.put("end")
}

func (w *writer) cond(c *api.Cond) {
	c.Kind = uint8(1 + w.Intn(5))
	c.Patterns = make([]api.Pattern, 1)
	c.At = api.Place{Col: len(w.words)}
	switch c.Kind {
	case 1:
		if w.Intn(2) == 0 {
			c.Patterns[0].Name = w.name()
			w.put(c.Patterns[0].Name, ":")
		}
	case 2:
		w.put("not")
	case 3:
		w.put("exists")
	case 4:
		w.put("not", "(")
		c.Patterns = make([]api.Pattern, w.size(1, 4))
	case 5:
		w.put("test")
		c.Patterns = nil
		w.expr(&c.Test)
	}
	for i := range c.Patterns {
		w.pattern(&c.Patterns[i])
	}
	if c.Kind == 4 {
		w.put(")")
	}
}

func (w *writer) pattern(p *api.Pattern) {
	p.T = w.name()
	p.At = w.put(p.T, "(")
	p.Slots = make([]api.SlotTest, w.size(0, 8))
	for i := range p.Slots {
		if i > 0 {
			w.put(",")
		}
		s := &p.Slots[i]
		s.Slot = w.name()
		s.At = w.put(s.Slot, ":")
		w.test(&s.Test)
	}
	w.put(")")
}

func (w *writer) action(a *api.Action) {
	k := w.Intn(5)
	a.Kind = uint8(k + 1)
	a.At = w.put([]string{"assert", "logical", "modify", "retract", "halt"}[k])
	if a.Kind == 5 {
		return
	}
	a.Name = w.name()
	w.put(a.Name)
	if a.Kind == 4 {
		return
	}
	w.put("(")
	a.Sets = make([]api.Set, w.size(0, 8))
	for i := range a.Sets {
		if i > 0 {
			w.put(",")
		}
		s := &a.Sets[i]
		s.Slot = w.name()
		s.At = w.put(s.Slot, ":")
		w.expr(&s.E)
	}
	w.put(")")
}

// program makes one, of few parts.
func (w *writer) program() {
	for range w.Intn(3) {
		w.template()
	}
	w.p.Rules = make([]api.Rule, w.Intn(3))
	for i := range w.p.Rules {
		w.rule(&w.p.Rules[i])
	}
}

// isSplit tells whether two words have to stand apart.
func isSplit(a, b string) bool {
	l, _, e := lexer.Lex(a + b)
	m, _, f := lexer.Lex(a + " " + b)
	return e != f || len(l) != len(m) || e == 0 && (l[0].Kind != m[0].Kind || l[0].Text != m[0].Text)
}

// lay lays words out with blanks, line ends and remarks by chance, and tells
// the text and each word's place.
func lay(r *rand.Rand, words []string) (string, []api.Place) {
	var s string
	var places []api.Place
	line, col := 1, 1
	put := func(x string) {
		s += x
		for _, b := range []byte(x) {
			col++
			if b == '\n' {
				line, col = line+1, 1
			}
		}
	}
	between := func() {
		for r.Intn(3) == 0 {
			put([]string{" ", "  ", "\n", "\n\n  ", " ; a remark, \"(\" %\n", ";\n"}[r.Intn(6)])
		}
	}
	last := ""
	for _, w := range words {
		if last != "" && isSplit(last, w) {
			put([]string{" ", "\n", ";then\n", "   "}[r.Intn(4)])
		}
		between()
		places = append(places, api.Place{Line: line, Col: col})
		put(w)
		last = w
	}
	between()
	return s, places
}

// settle sets all places of a program that are numbers of words.
func settle(v reflect.Value, places []api.Place) {
	switch v.Kind() {
	case reflect.Struct:
		if p, ok := v.Addr().Interface().(*api.Place); ok {
			*p = places[p.Col]
			return
		}
		for i := range v.NumField() {
			settle(v.Field(i), places)
		}
	case reflect.Slice:
		if _, ok := v.Interface().(api.Expr); ok {
			return
		}
		if _, ok := v.Interface().(api.Tests); ok {
			return
		}
		for i := range v.Len() {
			settle(v.Index(i), places)
		}
	}
}

// whole tells all of a value, places too; lists that are not there as empty ones.
func whole(p api.Program) string { return fmt.Sprintf("%v", p) }

// P12.1: what is read of programs that were made by chance is they.
func TestProgramsByChance(t *testing.T) {
	r := rand.New(rand.NewSource(12))
	for range 1500 {
		w := &writer{Rand: r}
		w.program()
		s, places := lay(r, w.words)
		l, _, e := lexer.Lex(s)
		if e != 0 || len(l) != len(w.words) {
			t.Fatalf("%q: %d words of %d, %d", s, len(l), len(w.words), e)
		}
		for _, x := range w.exprs {
			y, n, e := expr.Parse(l, x.from)
			if e != 0 || n != x.end {
				t.Fatalf("%q: the expression at word %d: %d, %d", s, x.from, n, e)
			}
			*x.to = y
		}
		for _, x := range w.tests {
			y, n, e := unary.Parse(l, x.from)
			if e != 0 || n != x.end {
				t.Fatalf("%q: the tests at word %d: %d, %d", s, x.from, n, e)
			}
			*x.to = y
		}
		settle(reflect.ValueOf(&w.p).Elem(), places)
		p, at, e := Parse(s)
		if e != 0 || at != (api.Place{}) || whole(p) != whole(w.p) {
			t.Fatalf("Parse(%q) = %v, %v, %d; want %v", s, p, at, e, w.p)
		}
		if q, _, _ := Parse(strings.Join(w.words, " ")); !Same(p, q) || !Same(q, p) {
			t.Fatalf("%q is another program with blanks alone between", s)
		}
		holdModel(t, s)
	}
}

// holdModel asks that Parse answers as the model does.
func holdModel(t *testing.T, s string) {
	t.Helper()
	p, at, e := Parse(s)
	q, place, f := model(s)
	if e != f || at != place || whole(p) != whole(q) {
		t.Fatalf("Parse(%q) = %v, %v, %d; want %v, %v, %d", s, p, at, e, q, place, f)
	}
}

// vocabulary is each word of the grammar, and some of each other kind.
var vocabulary = strings.Split("template rule when then end not exists test assert logical modify retract halt int sym a b int1 5 100 101 1.5 \"a\" \"when\" \"(\" #rule ?end ? ( ) [ : , - = < .. + true null length in", " ")

// P12.1: each text of programs made by chance, cut behind each word, and with
// a word or two put in, left out or changed, is answered as the model does.
func TestFaultsByChance(t *testing.T) {
	r := rand.New(rand.NewSource(13))
	for range 120 {
		w := &writer{Rand: r}
		w.program()
		for i := range w.words {
			holdModel(t, strings.Join(w.words[:i], " "))
		}
		for range 60 {
			l := append([]string(nil), w.words...)
			for range 1 + r.Intn(2) {
				i := r.Intn(len(l) + 1)
				switch k := r.Intn(4); {
				case k == 0 || i == len(l):
					l = append(l[:i:i], append([]string{w.oneOf(vocabulary...)}, l[i:]...)...)
				case k == 1:
					l = append(l[:i:i], l[i+1:]...)
				case k == 2:
					l[i] = w.oneOf(vocabulary...)
				default:
					j := r.Intn(len(l))
					l[i], l[j] = l[j], l[i]
				}
			}
			holdModel(t, strings.Join(l, " "))
		}
	}
}

// P12.1: a program of each form of the grammar, with each word of the
// vocabulary at each of its words' places, ahead of it and in its stead.
func TestEachWordAtEachPlace(t *testing.T) {
	s := "template a x : int y : sym template b z : dec rule r - 5 when p : a ( x : > 1 , y : not ( 2 , 3 ) ) a ( ) not b ( z : [ 1 .. 2 ) ) exists b ( ) not ( a ( x : - ) b ( ) ) test ?n + 1 < length ( \"u\" ) then assert a ( x : 1 , y : #s ) logical b ( ) modify p ( x : ( 2 ) ) retract p halt end rule q 7 when then end rule z when then end"
	words := strings.Split(s, " ")
	holdModel(t, s)
	if _, at, e := Parse(s); e != 0 {
		t.Fatalf("%v, %d", at, e)
	}
	for i := range words {
		ahead, behind := strings.Join(words[:i], " ")+" ", " "+strings.Join(words[i:], " ")
		holdModel(t, ahead)
		holdModel(t, ahead+strings.Join(words[i+1:], " "))
		for _, w := range vocabulary {
			holdModel(t, ahead+w)
			holdModel(t, ahead+w+behind)
			holdModel(t, ahead+w+" "+strings.Join(words[i+1:], " "))
		}
	}
}

// P12.1: all short rows of words behind beginnings of each kind.
func TestShortRows(t *testing.T) {
	few := strings.Split("template rule when then end not exists test assert retract halt int a 5 \"a\" #rule ? ( ) : , - true", " ")
	for _, ahead := range []string{
		"", "template", "template a x : int", "rule", "rule r", "rule r when", "rule r when p :", "rule r when a (", "rule r when a ( x : 1", "rule r when not", "rule r when not ( a ( )", "rule r when test 1", "rule r when then", "rule r when then assert a (", "rule r when then assert a ( x : 1", "rule r when then end",
	} {
		for _, x := range few {
			for _, y := range few {
				for _, z := range few {
					holdModel(t, ahead+" "+x+" "+y+" "+z)
				}
			}
		}
	}
	for _, ahead := range []string{
		numbered(15, " ", "template t x : int"), numbered(16, " ", "template t x : int"), "template a " + numbered(7, " ", "x : int"), "template a " + numbered(8, " ", "x : int"),
		numbered(31, " ", "rule r when then end"), numbered(32, " ", "rule r when then end"), "rule r when " + numbered(5, " ", "a ( )"), "rule r when " + numbered(6, " ", "a ( )"), "rule r when not ( " + numbered(3, " ", "a ( )"), "rule r when not ( " + numbered(4, " ", "a ( )"),
		"rule r when then " + numbered(7, " ", "halt"), "rule r when then " + numbered(8, " ", "halt"), "rule r when a ( " + numbered(7, ", ", "x : 1"), "rule r when a ( " + numbered(8, ", ", "x : 1"), "rule r when then assert a ( " + numbered(7, ", ", "x : 1"), "rule r when then assert a ( " + numbered(8, ", ", "x : 1"),
		numbered(16, " ", "template t x : int") + " " + numbered(31, " ", "rule r when then end"), numbered(15, " ", "template t x : int") + " template a " + numbered(8, " ", "x : int"),
	} {
		for _, x := range few {
			for _, y := range few {
				holdModel(t, ahead+" "+x+" "+y)
				holdModel(t, ahead+" , "+x+" "+y)
				holdModel(t, ahead+" "+x+" "+y+" : 1")
			}
		}
	}
}
