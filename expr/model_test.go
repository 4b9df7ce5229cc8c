package expr

import (
	"math/rand"
	"slices"
	"strconv"
	"strings"
	"testing"

	"witan/api"
	"witan/lexer"
)

// The model reads words one by one with a stack of operators that wait for
// what they have, and turns them into nodes in the order in which they are done.

// waiting is an operator, or an open parenthesis (of rank 0), that waits.
type waiting struct {
	op     uint8
	rank   int
	ahead  bool // it stands ahead of what it has
	at     api.Place
	call   *callRow
	before int // how many values there were as it was met
}

type machine struct {
	stack  []waiting
	tree   api.Expr
	values []int
}

// ranks are the levels of infix operators and of those ahead.
var ranks = map[string]waiting{
	"or": {op: 4, rank: 1}, "and": {op: 5, rank: 2}, "=": {op: 7, rank: 4}, "<>": {op: 8, rank: 4}, "<": {op: 9, rank: 4}, "<=": {op: 10, rank: 4}, ">": {op: 11, rank: 4}, ">=": {op: 12, rank: 4},
	"+": {op: 13, rank: 5}, "-": {op: 14, rank: 5}, "*": {op: 15, rank: 6}, "/": {op: 16, rank: 6},
}

// done makes a node of the last n values.
func (m *machine) done(op uint8, at api.Place, n int) {
	kids := slices.Clone(m.values[len(m.values)-n:])
	m.values = append(m.values[:len(m.values)-n], len(m.tree))
	m.tree = append(m.tree, api.Node{Op: op, Kids: kids, At: at})
}

func (m *machine) value(n api.Node) {
	m.values = append(m.values, len(m.tree))
	m.tree = append(m.tree, n)
}

func (m *machine) top() waiting {
	if len(m.stack) == 0 {
		return waiting{}
	}
	return m.stack[len(m.stack)-1]
}

// finish does all that waits with a rank of at least that.
func (m *machine) finish(rank int) {
	for w := m.top(); w.rank >= rank && w.rank > 0; w = m.top() {
		m.stack = m.stack[:len(m.stack)-1]
		if w.ahead {
			m.done(w.op, w.at, 1)
		} else {
			m.done(w.op, w.at, 2)
		}
	}
}

// deep counts what is open.
func (m *machine) deep() int {
	n := 0
	for _, w := range m.stack {
		if w.rank == 0 || w.ahead {
			n++
		}
	}
	return n
}

func (m *machine) opens(w waiting) api.Errno {
	if m.deep() == 12 {
		return api.ErrDepth
	}
	w.before = len(m.values)
	m.stack = append(m.stack, w)
	return api.OK
}

func quoted(w api.Tok) string {
	if w.Kind == 1 || w.Kind == 7 {
		return w.Text
	}
	return ""
}

func rowOf(w api.Tok) *callRow {
	for _, c := range callRows() {
		if w.Kind == 1 && w.Text == c.word {
			return &c
		}
	}
	return nil
}

// model answers as Parse does.
func model(l []api.Tok, from int) (api.Expr, int, api.Errno) {
	if from < 0 || from > len(l) {
		return nil, 0, api.ErrArg
	}
	m := &machine{}
	wanted := true // an expression's beginning, not what goes on with it
	i := from
	for ; i < len(l); i++ {
		var e api.Errno
		ends := false
		if c := rowOf(l[i]); wanted && c != nil {
			if i++; i == len(l) || quoted(l[i]) != "(" {
				return nil, i, api.ErrForm
			}
			e = m.opens(waiting{call: c, at: l[i-1].At})
		} else if wanted {
			wanted, e = m.begin(l[i])
		} else {
			wanted, ends, e = m.goOn(l[i])
		}
		if e != api.OK {
			return nil, i, e
		}
		if ends {
			break
		}
	}
	if !wanted {
		m.finish(1)
	}
	if wanted || len(m.stack) > 0 {
		return nil, i, api.ErrForm
	}
	if len(m.tree) > 60 {
		return nil, from, api.ErrFull
	}
	return m.tree, i, api.OK
}

// begin takes a word where an expression is wanted, and tells whether it is still.
func (m *machine) begin(w api.Tok) (bool, api.Errno) {
	switch {
	case quoted(w) == "not" && (m.top().rank <= 3):
		return true, m.opens(waiting{op: 6, rank: 3, ahead: true, at: w.At})
	case quoted(w) == "-":
		return true, m.opens(waiting{op: 17, rank: 7, ahead: true, at: w.At})
	case w.Kind == 7 && w.Text == "(":
		return true, m.opens(waiting{})
	case w.Kind == 2:
		m.value(api.Node{Op: 2, Name: w.Text, At: w.At})
	case w.Kind == 3:
		m.value(api.Node{Op: 3, At: w.At})
	case 4 <= w.Kind && w.Kind <= 6:
		m.value(api.Node{Op: 1, V: w.V, At: w.At})
	case w.Kind == 1 && w.Text == "true":
		m.value(api.Node{Op: 1, V: api.Value{Kind: 4, N: 1}, At: w.At})
	case w.Kind == 1 && w.Text == "false":
		m.value(api.Node{Op: 1, V: api.Value{Kind: 4}, At: w.At})
	case w.Kind == 1 && w.Text == "null":
		m.value(api.Node{Op: 1, At: w.At})
	default:
		return true, api.ErrForm
	}
	return false, api.OK
}

// goOn takes a word behind an expression: whether one is wanted behind it, and
// whether all ends ahead of it.
func (m *machine) goOn(w api.Tok) (bool, bool, api.Errno) {
	if o, ok := ranks[quoted(w)]; ok {
		if o.rank == 4 {
			m.finish(5)
			if m.top().rank == 4 {
				return false, true, api.OK
			}
		}
		m.finish(o.rank)
		o.at = w.At
		m.stack = append(m.stack, o)
		return true, false, api.OK
	}
	if s := quoted(w); s == ")" || s == "," {
		m.finish(1)
		return m.inParentheses(s)
	}
	return false, true, api.OK
}

func (m *machine) inParentheses(s string) (bool, bool, api.Errno) {
	if len(m.stack) == 0 {
		return false, true, api.OK
	}
	w := m.top()
	n := len(m.values) - w.before
	switch {
	case s == "," && w.call == nil:
		return false, false, api.ErrForm
	case s == "," && n == w.call.most, s == ")" && w.call != nil && n < w.call.least:
		return false, false, api.ErrMany
	case s == ",":
		return true, false, api.OK
	}
	m.stack = m.stack[:len(m.stack)-1]
	if w.call != nil {
		m.done(w.call.op, w.at, n)
	}
	return false, false, api.OK
}

// against asks Parse what the model tells.
func against(t *testing.T, l []api.Tok, from int) api.Errno {
	t.Helper()
	x, n, e := Parse(l, from)
	y, m, f := model(l, from)
	if !isEqual(x, y) || n != m || e != f || (e != api.OK && x != nil) {
		t.Errorf("Parse(%s, %d) = %v, %d, %d; want %v, %d, %d", told(l), from, x, n, e, y, m, f)
	}
	return e
}

// placed gives words different places.
func placed(l []api.Tok) []api.Tok {
	l = slices.Clone(l)
	for i := range l {
		l[i].At = at(2+i/7, 10*(i%7+1))
	}
	return l
}

// P7.1: all rows of up to so many of these words.

func TestParseOfShortRows(t *testing.T) {
	for _, x := range []struct {
		words string
		most  int
	}{
		{"1 ?a ? true - not and or = < + * ( ) , min ( mod x [", 4},
		{"1 - not = and ( )", 6},
		{"1 abs mod ( ) ,", 6},
		{"1 - ( )", 8},
		{"1 or = + * -", 6},
	} {
		var all []api.Tok
		for _, s := range strings.Fields(x.words) {
			w := words(t, s)[0]
			all = append(all, w)
			if strings.Contains("- not ( )", s) && x.most < 5 {
				w.Kind = api.TokName + api.TokSign - w.Kind
				all = append(all, w)
			}
		}
		var each func(l []api.Tok, left int)
		each = func(l []api.Tok, left int) {
			against(t, placed(l), 0)
			if left == 0 || t.Failed() {
				return
			}
			for _, w := range all {
				each(append(l[:len(l):len(l)], w), left-1)
			}
		}
		each(nil, x.most)
	}
}

// maker makes trees by chance, with the words that have them.
type maker struct {
	r    *rand.Rand
	tree api.Expr
	text []string
}

func (m *maker) put(s ...string) { m.text = append(m.text, s...) }

func (m *maker) add(n api.Node) int {
	m.tree = append(m.tree, n)
	return len(m.tree) - 1
}

// expr makes an expression that can stand at a level of that rank (1 to 8),
// with parentheses where it could not else, and, now and then, where it could.
func (m *maker) expr(rank, deep int) int {
	kind := 0
	if deep > 0 {
		kind = m.r.Intn(9)
	}
	own := []int{8, 1, 2, 3, 4, 5, 6, 7, 8}[kind]
	if deep > 0 && (own < rank || m.r.Intn(8) == 0) {
		m.put("(")
		n := m.of(kind, own, deep-1)
		m.put(")")
		return n
	}
	return m.of(kind, own, deep)
}

func (m *maker) of(kind, own, deep int) int {
	switch kind {
	case 0:
		return m.atom()
	case 3:
		m.put("not")
		return m.add(api.Node{Op: api.OpNot, Kids: []int{m.expr(3, deep-1)}})
	case 7:
		m.put("-")
		return m.add(api.Node{Op: api.OpNeg, Kids: []int{m.expr(7, deep-1)}})
	case 8:
		return m.call(deep)
	}
	var signs []string
	for s, w := range ranks {
		if w.rank == own {
			signs = append(signs, s)
		}
	}
	slices.Sort(signs)
	sign := signs[m.r.Intn(len(signs))]
	left := own // to the left first
	if own == 4 {
		left = 5
	}
	a := m.expr(left, deep-1)
	m.put(sign)
	b := m.expr(own+1, deep-1)
	return m.add(api.Node{Op: ranks[sign].op, Kids: []int{a, b}})
}

func (m *maker) atom() int {
	s := []string{"1", "2.5", `"a b"`, "#s", "?", "?a", "?b", "true", "false", "null", "0", `""`}[m.r.Intn(12)]
	m.put(s)
	n := api.Node{Op: api.OpLit}
	switch s {
	case "1":
		n.V = whole(1)
	case "2.5":
		n.V = dec(25000)
	case `"a b"`:
		n.V = text("a b")
	case "#s":
		n.V = sym("s")
	case "true":
		n.V = truth(1)
	case "false":
		n.V = truth(0)
	case "0":
		n.V = whole(0)
	case `""`:
		n.V = text("")
	case "?":
		n = api.Node{Op: api.OpSelf}
	case "?a", "?b":
		n = api.Node{Op: api.OpVar, Name: s[1:]}
	}
	return m.add(n)
}

func (m *maker) call(deep int) int {
	c := callRows()[m.r.Intn(9)]
	m.put(c.word, "(")
	var kids []int
	for i := range c.least + m.r.Intn(c.most-c.least+1) {
		if i > 0 {
			m.put(",")
		}
		kids = append(kids, m.expr(1, deep-1))
	}
	m.put(")")
	return m.add(api.Node{Op: c.op, Kids: kids})
}

// made makes a tree and its words.
func made(r *rand.Rand, deep int) (api.Expr, []string) {
	m := &maker{r: r}
	m.expr(1, deep)
	return m.tree, m.text
}

// spread sets words apart by what may stand between.
func spread(r *rand.Rand, l []string) string {
	var b strings.Builder
	for _, s := range l {
		b.WriteString([]string{" ", "  ", "\n", " ; x\n ", "\n;\n"}[r.Intn(5)] + s)
	}
	return b.String()
}

// P7.2: a tree is read of its text, with the places of its operators, calls and atoms.

func TestReadOfTreesThatAreMade(t *testing.T) {
	r := rand.New(rand.NewSource(71))
	full := 0
	for i := range 6000 {
		want, l := made(r, 1+i%7)
		s := spread(r, l)
		x, p, e := Read(s)
		if len(want) > 60 {
			full++
			if x != nil || e != api.ErrFull || p != words(t, s)[0].At {
				t.Errorf("Read(%q) = %v, %v, %d", s, x, p, e)
			}
			continue
		}
		if !Same(x, want) || p != (api.Place{}) || e != api.OK {
			t.Errorf("Read(%q) = %v, %v, %d; want %v", s, x, p, e, want)
			return
		}
		holdPlaces(t, s, x)
	}
	if full < 100 {
		t.Errorf("%d trees had too many nodes", full)
	}
}

// holdPlaces asks that at each node's place the word stands that has it, at none two.
func holdPlaces(t *testing.T, s string, x api.Expr) {
	t.Helper()
	lines := strings.Split(s, "\n")
	seen := map[api.Place]bool{}
	for _, n := range x {
		there := lines[n.At.Line-1][n.At.Col-1:]
		if want := wordOf(n); seen[n.At] || !strings.HasPrefix(there, want) {
			t.Errorf("%q: %v is where %q stands, and no %q", s, n, there, want)
		}
		seen[n.At] = true
	}
}

func wordOf(n api.Node) string {
	for _, c := range callRows() {
		if c.op == n.Op {
			return c.word
		}
	}
	for s, w := range ranks {
		if w.op == n.Op {
			return s
		}
	}
	switch {
	case n.Op == api.OpNot:
		return "not"
	case n.Op == api.OpNeg:
		return "-"
	case n.Op == api.OpVar:
		return "?" + n.Name
	case n.Op == api.OpSelf:
		return "?"
	}
	switch n.V.Kind {
	case api.Int:
		return strconv.FormatInt(n.V.N, 10)
	case api.Dec:
		return "2.5"
	case api.Str:
		return `"` + n.V.S + `"`
	case api.Sym:
		return "#" + n.V.S
	case api.Bool:
		return strconv.FormatBool(n.V.N == 1)
	}
	return "null"
}

// P7.1, P7.2: texts that are a word or two away from trees'.

func TestParseOfWordsNearby(t *testing.T) {
	r := rand.New(rand.NewSource(72))
	other := strings.Fields("1 ? ?a true - not and or = <> < <= > >= + * / ( ( ) ) , , [ ] : .. x abs min mod if contains #s")
	met := map[api.Errno]int{}
	for i := range 12000 {
		_, text := made(r, 1+i%7)
		for range r.Intn(3) {
			text = changed(r, text, other)
		}
		s := spread(r, text)
		l := words(t, s)
		e := against(t, l, 0)
		met[e]++
		from := r.Intn(len(l)+3) - 1
		met[against(t, l, from)]++
		holdRead(t, s, l, e)
		holdFrom(t, l, from)
		if t.Failed() {
			return
		}
	}
	for _, e := range []api.Errno{api.OK, api.ErrArg, api.ErrForm, api.ErrMany, api.ErrFull} {
		if met[e] < 100 {
			t.Errorf("error %d was met %d times only: %v", e, met[e], met)
		}
	}
}

// changed takes a word away, or sets one in, or in another's stead; a call's
// in that of another call.
func changed(r *rand.Rand, l, other []string) []string {
	i := r.Intn(len(l) + 1)
	w := other[r.Intn(len(other))]
	if i < len(l) && rowOf(name(l[i])) != nil {
		l = slices.Clone(l)
		l[i] = callRows()[r.Intn(9)].word
		return l
	}
	if len(l) == 0 || i == len(l) {
		return append(slices.Clone(l), w)
	}
	switch r.Intn(3) {
	case 0:
		return slices.Delete(slices.Clone(l), i, i+1)
	case 1:
		return slices.Insert(slices.Clone(l), i, w)
	}
	l = slices.Clone(l)
	l[i] = w
	return l
}

// holdRead asks Read for what Parse tells of all words, which is e.
func holdRead(t *testing.T, s string, l []api.Tok, e api.Errno) {
	t.Helper()
	x, n, _ := Parse(l, 0)
	var p api.Place
	if e == api.OK && n < len(l) {
		x, e = nil, api.ErrForm
	}
	switch {
	case e == api.OK:
	case n < len(l):
		p = l[n].At
	default:
		p = Behind(l)
	}
	if y, q, f := Read(s); !isEqual(x, y) || p != q || e != f {
		t.Errorf("Read(%q) = %v, %v, %d; want %v, %v, %d", s, y, q, f, x, p, e)
	}
}

// holdFrom asks that what is ahead of from, and behind what was read, is not asked.
func holdFrom(t *testing.T, l []api.Tok, from int) {
	t.Helper()
	if from < 0 || from > len(l) {
		return
	}
	x, n, e := Parse(l, from)
	y, m, f := Parse(l[from:], 0)
	if !isEqual(x, y) || n != m+from || e != f {
		t.Errorf("Parse(%s, %d) = %v, %d, %d; of those words alone %v, %d, %d", told(l), from, x, n, e, y, m, f)
	}
	if e != api.OK {
		return
	}
	if y, m, f = Parse(l[:n], from); !isEqual(x, y) || n != m || e != f {
		t.Errorf("Parse(%s, %d) = %v, %d, %d; with nothing behind %v, %d, %d", told(l), from, x, n, e, y, m, f)
	}
}

// P7.1: words by chance, deep ones among them.

func TestParseOfRandomWords(t *testing.T) {
	r := rand.New(rand.NewSource(73))
	met := map[api.Errno]int{}
	for i := range 20000 {
		var l []api.Tok
		wanted := true
		for range r.Intn(80) {
			l = append(l, likely(r, &wanted)...)
		}
		if i%3 == 0 {
			for range 10 {
				l = slices.Insert(l, r.Intn(len(l)+1), sign("("))
			}
		}
		met[against(t, placed(l), 0)]++
		if t.Failed() {
			return
		}
	}
	for _, e := range []api.Errno{api.OK, api.ErrForm, api.ErrDepth, api.ErrMany} {
		if met[e] < 100 {
			t.Errorf("error %d was met %d times only: %v", e, met[e], met)
		}
	}
}

// likely tells words that may well stand there, of either kind.
func likely(r *rand.Rand, wanted *bool) []api.Tok {
	kind := []uint8{api.TokName, api.TokSign}[r.Intn(2)]
	if r.Intn(40) == 0 {
		return []api.Tok{{Kind: uint8(r.Intn(9)), Text: []string{"", "not", "-", "(", "x"}[r.Intn(5)]}}
	}
	if !*wanted {
		*wanted = true
		s := []string{"or", "and", "=", "<", ">=", "+", "-", "*", "/", ",", ")", ")"}[r.Intn(12)]
		*wanted = s != ")"
		return []api.Tok{{Kind: kind, Text: s}}
	}
	switch r.Intn(9) {
	case 0, 1:
		return []api.Tok{{Kind: kind, Text: []string{"not", "-", "-"}[r.Intn(3)]}}
	case 2, 3:
		return []api.Tok{sign("(")}
	case 4:
		return []api.Tok{name(callRows()[r.Intn(9)].word), {Kind: kind, Text: "("}}
	}
	*wanted = false
	atoms := []api.Tok{{Kind: 2, Text: "a"}, {Kind: 3}, {Kind: 4, V: whole(3)}, {Kind: 5, V: text("s")}, {Kind: 6, V: sym("y")}, name("true"), name("null")}
	return []api.Tok{atoms[r.Intn(7)]}
}

// "What follows": of any expression, and of any that stands in one.

func TestParenthesesAroundAnyChangeNothing(t *testing.T) {
	r := rand.New(rand.NewSource(74))
	for i := range 5000 {
		_, text := made(r, 1+i%4)
		l, _, e := lexer.Lex(spread(r, text))
		if e != api.OK {
			t.Fatal(text)
		}
		x, _, e := Parse(l, 0)
		y, n, f := Parse(slices.Concat([]api.Tok{sign("(")}, l, []api.Tok{sign(")")}), 0)
		if f != e || !Same(x, y) || (e == api.OK && n != len(l)+2) {
			t.Errorf("%v: %v, %d; in parentheses %v, %d, %d", text, x, e, y, n, f)
		}
	}
}
