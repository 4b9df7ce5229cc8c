package eprint

import (
	"math"
	"math/rand"
	"regexp"
	"slices"
	"strings"
	"testing"

	"witan/api"
	"witan/expr"
	"witan/lexer"
)

// row is an op: its word, its rank (the grammar's lines, from 1 on; an atom's
// is 8), and those that its expressions must have at least.
type row struct {
	op   uint8
	word string
	rank int
	kids []int
	most int // of a call: how many expressions it may have
}

var opRows = []row{
	{op: 2, rank: 8}, {op: 3, rank: 8}, {op: 1, rank: 8},
	{4, "or", 1, []int{1, 2}, 0}, {5, "and", 2, []int{2, 3}, 0}, {6, "not", 3, []int{3}, 0},
	{7, "=", 4, []int{5, 5}, 0}, {8, "<>", 4, []int{5, 5}, 0}, {9, "<", 4, []int{5, 5}, 0}, {10, "<=", 4, []int{5, 5}, 0}, {11, ">", 4, []int{5, 5}, 0}, {12, ">=", 4, []int{5, 5}, 0},
	{13, "+", 5, []int{5, 6}, 0}, {14, "-", 5, []int{5, 6}, 0}, {15, "*", 6, []int{6, 7}, 0}, {16, "/", 6, []int{6, 7}, 0}, {17, "-", 7, []int{7}, 0},
	{18, "abs", 8, []int{1}, 1}, {19, "min", 8, []int{1}, 8}, {20, "max", 8, []int{1}, 8}, {21, "mod", 8, []int{1, 1}, 2}, {22, "length", 8, []int{1}, 1},
	{23, "upper", 8, []int{1}, 1}, {24, "contains", 8, []int{1, 1}, 2}, {25, "starts", 8, []int{1, 1}, 2}, {26, "if", 8, []int{1, 1, 1}, 3},
}

// rowOf tells nil, if op is none.
func rowOf(op uint8) *row {
	i := slices.IndexFunc(opRows, func(r row) bool { return r.op == op })
	if i < 0 {
		return nil
	}
	return &opRows[i]
}

// may is a model of May: from the whole down to the atoms, to the right first.
func may(x api.Expr) bool {
	if len(x) == 0 || len(x) > 60 {
		return false
	}
	first, deep := stands(x, len(x)-1, 1)
	return first == 0 && deep <= 12
}

// stands tells at which node an expression begins of which the last one is n,
// and how many levels it opens where one of that rank is read; -1 of none.
func stands(x api.Expr, n, rank int) (first, deep int) {
	if n < 0 || !mayBeThere(x[n]) {
		return -1, 0
	}
	r := rowOf(x[n].Op)
	first = n
	for i := len(x[n].Kids) - 1; i >= 0; i-- {
		if x[n].Kids[i] != first-1 {
			return -1, 0
		}
		at := 1
		if r.most == 0 {
			at = r.kids[i]
		}
		var d int
		if first, d = stands(x, first-1, at); first < 0 {
			return -1, 0
		}
		deep = max(deep, d)
	}
	if r.most > 0 || len(r.kids) == 1 {
		deep++
	}
	if r.rank < rank {
		deep++
	}
	return first, deep
}

var (
	nameForm = regexp.MustCompile(`\A[a-z][a-z0-9]{0,11}\z`)
	textForm = regexp.MustCompile(`\A[ -~]{0,200}\z`)
)

// mayBeThere asks one node alone.
func mayBeThere(n api.Node) bool {
	r := rowOf(n.Op)
	if r == nil || len(n.Kids) < len(r.kids) || len(n.Kids) > max(len(r.kids), r.most) {
		return false
	}
	if n.Op == 2 && !nameForm.MatchString(n.Name) || n.Op != 2 && n.Name != "" {
		return false
	}
	if n.Op != 1 {
		return n.V == api.Value{}
	}
	switch n.V.Kind {
	case 0:
		return n.V == api.Value{}
	case 1, 2:
		return n.V.N >= 0 && n.V.S == ""
	case 3:
		return n.V.N == 0 && textForm.MatchString(n.V.S)
	case 4:
		return n.V.N>>1 == 0 && n.V.S == ""
	}
	return n.V.Kind == 5 && n.V.N == 0 && nameForm.MatchString(n.V.S)
}

// spelt tells words as a text with blanks just where the chapter has them.
func spelt(l []string) string {
	var b strings.Builder
	ends := false // whether what is ahead ends an expression
	for _, w := range l {
		switch r := infixRow(w); {
		case r && ends:
			b.WriteString(" " + w + " ")
			ends = false
		case w == "not":
			b.WriteString("not ")
		case w == ",":
			b.WriteString(", ")
			ends = false
		default:
			b.WriteString(w)
			ends = w != "(" && w != "-"
		}
	}
	return b.String()
}

func infixRow(w string) bool {
	return slices.ContainsFunc(opRows, func(r row) bool { return r.word == w && len(r.kids) == 2 && r.most == 0 })
}

// words are a text's, each as it is written.
func words(t *testing.T, s string) []string {
	t.Helper()
	l, _, e := lexer.Lex(s)
	if e != api.OK {
		t.Fatalf("Lex(%.300q): %d", s, e)
	}
	var out []string
	for _, w := range l {
		ahead := map[uint8]string{api.TokVar: "?", api.TokSelf: "?", api.TokSym: "#", api.TokString: `"`}[w.Kind]
		behind := map[uint8]string{api.TokString: `"`}[w.Kind]
		out = append(out, ahead+w.Text+behind)
	}
	return out
}

// pairs are the parentheses around expressions, from ( to ), and not a call's.
func pairs(l []string) [][2]int {
	var open []int
	var all [][2]int
	for i, w := range l {
		if w == "(" {
			open = append(open, i)
		}
		if w != ")" {
			continue
		}
		first := open[len(open)-1]
		open = open[:len(open)-1]
		if first == 0 || !slices.ContainsFunc(opRows, func(r row) bool { return r.most > 0 && r.word == l[first-1] }) {
			all = append(all, [2]int{first, i})
		}
	}
	return all
}

// holdWhole asks of x's text all that the chapter asks: it is read as x, it has
// blanks and commas where they should be, and none of its pairs of parentheses
// could be left out.
func holdWhole(t *testing.T, x api.Expr) {
	t.Helper()
	s, e := Text(x)
	if e != api.OK || !May(x) {
		t.Errorf("Text(%v) = %q, %d; May %v", x, s, e, May(x))
		return
	}
	if y, _, e := expr.Read(s); e != api.OK || !expr.Same(x, y) {
		t.Errorf("%q is read as %v, %d; want %v", s, y, e, x)
		return
	}
	l := words(t, s)
	if spelt(l) != s {
		t.Errorf("Text(%v) = %q, want %q", x, s, spelt(l))
	}
	for _, p := range pairs(l) {
		less := slices.Concat(l[:p[0]], l[p[0]+1:p[1]], l[p[1]+1:])
		if y, _, e := expr.Read(strings.Join(less, " ")); e == api.OK && expr.Same(x, y) {
			t.Errorf("Text(%v) = %q has parentheses that could be left out: words %d to %d", x, s, p[0], p[1])
		}
	}
}

// against asks of any nodes what the model tells of them.
func against(t *testing.T, x api.Expr) bool {
	t.Helper()
	want := may(x)
	if want {
		holdWhole(t, x)
	} else {
		refuse(t, x)
	}
	return want
}

// counted tells how many expressions an op may have.
func (r row) counted() []int {
	l := []int{len(r.kids)}
	for n := len(r.kids) + 1; n <= r.most; n++ {
		l = append(l, n)
	}
	return l
}

// moved is x as it stands behind so many nodes.
func moved(x api.Expr, ahead int) api.Expr {
	y := slices.Clone(x)
	for i := range y {
		y[i].Kids = slices.Clone(y[i].Kids)
		for j := range y[i].Kids {
			y[i].Kids[j] += ahead
		}
	}
	return y
}

// joined puts expressions below an op.
func joined(op uint8, l ...api.Expr) api.Expr {
	var x api.Expr
	var kids []int
	for _, y := range l {
		x = append(x, moved(y, len(x))...)
		kids = append(kids, len(x)-1)
	}
	n := api.Node{Op: op, Kids: kids}
	if op == api.OpVar {
		n.Name = "a"
	}
	return append(x, n)
}

// flat are all ops, each with atoms alone.
func flat() []api.Expr {
	var l []api.Expr
	for _, r := range opRows {
		x := make([]api.Expr, len(r.kids))
		for i := range x {
			x[i] = tree(self())
		}
		l = append(l, joined(r.op, x...))
	}
	return l
}

// P8.1: each op at each place of each other one, both places of those that have
// two, and that below each other one again.

func TestEachOpBelowEachOther(t *testing.T) {
	for _, r := range opRows {
		if len(r.kids) == 0 {
			continue
		}
		for _, n := range r.counted() {
			for i := range n {
				for _, x := range flat() {
					l := slices.Repeat([]api.Expr{tree(one())}, n)
					l[i] = x
					holdWhole(t, joined(r.op, l...))
				}
			}
		}
	}
	for _, r := range opRows {
		if len(r.kids) != 2 {
			continue
		}
		for _, x := range flat() {
			for _, y := range flat() {
				holdWhole(t, joined(r.op, x, y))
			}
		}
	}
}

// onTop tells x below each op, at each place that it has.
func onTop(x api.Expr) []api.Expr {
	var all []api.Expr
	for _, r := range opRows {
		for i := range r.kids {
			l := slices.Repeat([]api.Expr{tree(one())}, len(r.kids))
			l[i] = x
			all = append(all, joined(r.op, l...))
		}
	}
	return all
}

func TestThreeOpsInARow(t *testing.T) {
	for _, x := range flat() {
		for _, y := range onTop(x) {
			for _, z := range onTop(y) {
				holdWhole(t, z)
			}
		}
		if t.Failed() {
			return
		}
	}
}

// Not, minus, and what their levels are near to, four in a row.
func TestNotAndMinusInARow(t *testing.T) {
	ops := []uint8{api.OpNot, api.OpNeg, api.OpEq, api.OpAdd, api.OpMul, api.OpAbs}
	var each func(x api.Expr, left int)
	each = func(x api.Expr, left int) {
		holdWhole(t, x)
		if left == 0 || t.Failed() {
			return
		}
		for _, op := range ops {
			n := len(rowOf(op).kids)
			for i := range n {
				l := slices.Repeat([]api.Expr{tree(one())}, n)
				l[i] = x
				each(joined(op, l...), left-1)
			}
		}
	}
	each(tree(self()), 4)
}

// maker makes expressions by chance.
type maker struct {
	*rand.Rand
	calls, atoms, narrow bool // whether there are calls; whether atoms come soon; whether but one expression of each op is none
}

func (m *maker) expr(deep int) api.Expr {
	if deep == 0 || m.atoms && m.Intn(4) == 0 {
		return tree(m.atom())
	}
	all := opRows[3:17]
	if m.calls {
		all = opRows[3:]
	}
	r := all[m.Intn(len(all))]
	n := r.counted()[0]
	if m.Intn(3) == 0 {
		n = r.counted()[m.Intn(len(r.counted()))]
	}
	l := make([]api.Expr, n)
	on := m.Intn(n)
	for i := range l {
		l[i] = tree(m.atom())
		if i == on || !m.narrow && m.Intn(2) > 0 {
			l[i] = m.expr(deep - 1)
		}
	}
	return joined(r.op, l...)
}

func (m *maker) atom() api.Node {
	atoms := []api.Node{self(), self(), named("a"), named("bc"), one(), lit(whole(math.MaxInt64)), lit(dec(25000)), lit(dec(0)), lit(text("a b")), lit(text(`"\`)), lit(text("")), lit(sym("s")), lit(truth(1)), lit(truth(0)), lit(api.Value{})}
	return atoms[m.Intn(len(atoms))]
}

func made(m *maker, i int) api.Expr {
	m.calls, m.narrow = i%2 == 0, i%3 > 0
	m.atoms = !m.narrow && i%5 > 1
	if m.narrow {
		return m.expr(1 + i%25)
	}
	return m.expr(1 + i%9)
}

func TestExpressionsByChance(t *testing.T) {
	m := &maker{Rand: rand.New(rand.NewSource(81))}
	are, deep, full := 0, 0, 0
	for i := range 15000 {
		x := made(m, i)
		switch {
		case against(t, x):
			are++
		case len(x) > 60:
			full++
		default:
			deep++
		}
		if t.Failed() {
			return
		}
	}
	if are < 5000 || deep < 1000 || full < 100 {
		t.Errorf("%d may be, %d are too deep, %d have too many nodes", are, deep, full)
	}
}

// P8.1: nodes that are a fault or two away from an expression.

func TestNodesNearby(t *testing.T) {
	m := &maker{Rand: rand.New(rand.NewSource(82))}
	met := map[bool]int{}
	for i := range 30000 {
		x := made(m, i)
		if len(x) > 70 {
			continue
		}
		for range 1 + m.Intn(2) {
			x = m.fault(x)
		}
		met[against(t, x)]++
		if t.Failed() {
			return
		}
	}
	if met[true] < 2000 || met[false] < 10000 {
		t.Errorf("%d may be, %d may not", met[true], met[false])
	}
}

// fault changes one thing, which may well do no harm.
func (m *maker) fault(x api.Expr) api.Expr {
	if len(x) == 0 {
		return tree(m.atom())
	}
	i := m.Intn(len(x))
	switch m.Intn(9) {
	case 0:
		return slices.Delete(slices.Clone(x), i, i+1)
	case 1:
		return slices.Insert(slices.Clone(x), m.Intn(len(x)+1), m.atom())
	case 2:
		return slices.Insert(slices.Clone(x), i, x[i])
	case 3:
		return x[:i]
	}
	return with(x, i, func(n *api.Node) { m.change(n, i) })
}

// change changes one part of the node at i.
func (m *maker) change(n *api.Node, i int) {
	n.Kids = slices.Clone(n.Kids)
	switch k := m.Intn(8); {
	case k == 0:
		n.Op = uint8(m.Intn(29))
	case k == 1:
		n.Op = []uint8{4, 5, 7, 13, 14, 15, 6, 17, 18, 19, 22}[m.Intn(11)]
	case k == 2:
		n.V = []api.Value{{}, whole(3), whole(-3), dec(5), dec(-5), text("\n"), text("x"), truth(2), sym("A"), sym("b"), {Kind: 9}}[m.Intn(11)]
	case k == 3:
		n.Name = []string{"", "b", "B", "abcdefghijklm", "a b"}[m.Intn(5)]
	case len(n.Kids) == 0:
		n.Kids = []int{i - 1}
	case k == 4:
		n.Kids[m.Intn(len(n.Kids))] += m.Intn(5) - 2
	case k == 5:
		n.Kids = n.Kids[:len(n.Kids)-1]
	case k == 6:
		n.Kids = append(n.Kids, i-1)
	default:
		m.Shuffle(len(n.Kids), func(a, b int) { n.Kids[a], n.Kids[b] = n.Kids[b], n.Kids[a] })
	}
}

// P1: any nodes.

func TestAnyNodes(t *testing.T) {
	m := &maker{Rand: rand.New(rand.NewSource(83))}
	far := []int{0, 1, -1, 59, 60, 61, math.MaxInt, math.MinInt}
	for range 60000 {
		x := make(api.Expr, m.Intn(70))
		for i := range x {
			x[i] = m.atom()
			if m.Intn(3) > 0 {
				x[i].Op = uint8(m.Intn(28))
			}
			for range m.Intn(4) {
				k := i - 1 - m.Intn(3)
				if m.Intn(40) == 0 {
					k = far[m.Intn(len(far))]
				}
				x[i].Kids = append(x[i].Kids, k)
			}
		}
		against(t, x)
		if t.Failed() {
			return
		}
	}
}

// "What follows": of all texts of an expression there is one that Text tells.

func TestOneTextOfAll(t *testing.T) {
	m := &maker{Rand: rand.New(rand.NewSource(84))}
	for i := range 10000 {
		m.calls, m.atoms, m.narrow = i%2 == 0, i%3 == 0, false
		x := m.expr(1 + i%4)
		s, e := Text(x)
		if len(x) > 60 {
			continue
		}
		if e != api.OK {
			t.Fatalf("Text(%v): %d", x, e)
		}
		var b strings.Builder
		m.write(&b, x, len(x)-1, 1, 5)
		y, at, e := expr.Read(b.String())
		if e != api.OK || !expr.Same(x, y) {
			t.Fatalf("%q is read as %v, %v, %d; want %v", b.String(), y, at, e, x)
		}
		if again, e := Text(y); again != s || e != api.OK {
			t.Errorf("Text of %q = %q, %d; want %q", b.String(), again, e, s)
		}
	}
}

// write writes a text of node n, with parentheses and blanks where they need
// not be, too; spare tells how many levels may be open that need not.
func (m *maker) write(b *strings.Builder, x api.Expr, n, rank, spare int) {
	r := rowOf(x[n].Op)
	around := r.rank < rank
	if !around && spare > 0 && m.Intn(5) == 0 {
		around, spare = true, spare-1
	}
	m.put(b, map[bool]string{true: "("}[around])
	switch {
	case len(r.kids) == 0:
		s, _ := Text(x[n : n+1])
		m.put(b, s)
	case r.most > 0:
		m.put(b, r.word, "(")
		for i, k := range x[n].Kids {
			m.put(b, map[bool]string{true: ","}[i > 0])
			m.write(b, x, k, 1, spare)
		}
		m.put(b, ")")
	case len(r.kids) == 1:
		m.put(b, r.word)
		m.write(b, x, x[n].Kids[0], r.kids[0], spare)
	default:
		m.write(b, x, x[n].Kids[0], r.kids[0], spare)
		m.put(b, r.word)
		m.write(b, x, x[n].Kids[1], r.kids[1], spare)
	}
	m.put(b, map[bool]string{true: ")"}[around])
}

func (m *maker) put(b *strings.Builder, l ...string) {
	for _, s := range l {
		b.WriteString([]string{" ", "  ", "\n", " ; (x\n", "\n\n"}[m.Intn(5)] + s)
	}
}
