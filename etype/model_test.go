package etype

import (
	"math"
	"math/rand"
	"regexp"
	"slices"
	"strings"
	"testing"

	"witan/api"
	"witan/eprint"
	"witan/expr"
)

// takes are the rows of kinds that each op may have, by letters; what is null
// stands for any of them. Of ops that take numbers, however many, none.
var takes = map[uint8]string{
	api.OpOr: "bb", api.OpAnd: "bb", api.OpNot: "b",
	api.OpEq: "ii id di dd ss bb yy", api.OpNe: "ii id di dd ss bb yy",
	api.OpLt: "ii id di dd ss", api.OpLe: "ii id di dd ss", api.OpGt: "ii id di dd ss", api.OpGe: "ii id di dd ss",
	api.OpMod: "ii", api.OpLen: "s", api.OpUp: "s", api.OpHas: "ss", api.OpHead: "ss",
	api.OpIf: "bii bdd bss bbb byy",
}

// makes are the letters of the kinds that ops make, whatever they are given.
var makes = map[uint8]byte{
	api.OpOr: 'b', api.OpAnd: 'b', api.OpNot: 'b', api.OpEq: 'b', api.OpNe: 'b', api.OpLt: 'b', api.OpLe: 'b', api.OpGt: 'b', api.OpGe: 'b',
	api.OpMod: 'i', api.OpLen: 'i', api.OpUp: 's', api.OpHas: 'b', api.OpHead: 'b',
}

// made is a model of one op: the letter of its kind; "." of none.
func made(op uint8, kids string) byte {
	rows, ok := takes[op]
	if !ok {
		if strings.Trim(kids, "nid") != "" {
			return '.'
		}
		for _, c := range "di" {
			if strings.ContainsRune(kids, c) {
				return byte(c)
			}
		}
		return 'n'
	}
	if !slices.ContainsFunc(strings.Fields(rows), func(row string) bool { return fits(kids, row) }) {
		return '.'
	}
	if op != api.OpIf {
		return makes[op]
	}
	if kids[1] == 'n' {
		return kids[2]
	}
	return kids[1]
}

func fits(kids, row string) bool {
	for i := range kids {
		if kids[i] != 'n' && kids[i] != row[i] {
			return false
		}
	}
	return len(kids) == len(row)
}

// model tells, from the whole down, the kind's letter of node n, or the first
// node behind which nothing is worth while, and why.
func model(x api.Expr, n int, s api.Scope) (letter byte, bad int, e api.Errno) {
	var kids []byte
	for _, k := range x[n].Kids {
		c, bad, e := model(x, k, s)
		if e != 0 {
			return 0, bad, e
		}
		kids = append(kids, c)
	}
	kind := 0
	switch x[n].Op {
	case api.OpLit:
		kind = int(x[n].V.Kind)
	case api.OpVar:
		kind = -1
		for i := len(s.Vars) - 1; i >= 0; i-- {
			if s.Vars[i].Name == x[n].Name {
				kind = int(s.Vars[i].Kind)
			}
		}
	case api.OpSelf:
		kind = int(s.Self)
		if kind == 0 {
			kind = -1
		}
	default:
		letter = made(x[n].Op, string(kids))
		if letter == '.' {
			return 0, n, api.ErrKind
		}
		return letter, 0, 0
	}
	if kind < 0 {
		return 0, n, api.ErrScope
	}
	if kind >= len(letters) {
		return 0, n, api.ErrKind
	}
	return letters[kind], 0, 0
}

// holdModel holds Of against the model, and tells its answer.
func holdModel(t *testing.T, x api.Expr, s api.Scope) api.Errno {
	t.Helper()
	var want uint8
	var where api.Place
	c, bad, why := model(x, len(x)-1, s)
	if why == 0 {
		want = kindOfLetter(c)
	} else {
		where = x[bad].At
	}
	kind, at, e := Of(x, s)
	if kind != want || at != where || e != why {
		text, _ := eprint.Text(x)
		t.Errorf("Of(%.300q, %v) = %d, %v, %d; want %d, %v, %d", text, s, kind, at, e, want, where, why)
	}
	return e
}

// tree is a tree by its nodes, each with a place of its own.
func tree(l ...api.Node) api.Expr {
	for i := range l {
		l[i].At = api.Place{Line: 100 + i, Col: 7 * i}
	}
	return l
}

// atoms are the names of variables of a full scope, by the digits of n.
func atoms(n, count int) []api.Node {
	var l []api.Node
	for range count {
		l = append(l, api.Node{Op: api.OpVar, Name: letters[n%6 : n%6+1]})
		n /= 6
	}
	return l
}

func sixes(n int) int { return int(math.Pow(6, float64(n))) }

// counts are how many expressions an op may have.
func counts(op uint8) []int {
	switch op {
	case api.OpMin, api.OpMax:
		return []int{1, 2, 3, 4}
	case api.OpIf:
		return []int{3}
	case api.OpNot, api.OpNeg, api.OpAbs, api.OpLen, api.OpUp:
		return []int{1}
	}
	return []int{2}
}

func from(first, n int) []int {
	var l []int
	for i := range n {
		l = append(l, first+i)
	}
	return l
}

// Each op of all kinds at all its expressions.
func TestEachOp(t *testing.T) {
	n := 0
	for op := api.OpOr; op <= api.OpIf; op++ {
		for _, count := range counts(op) {
			for i := range sixes(count) {
				holdModel(t, tree(append(atoms(i, count), api.Node{Op: op, Kids: from(0, count)})...), full(0))
				n++
			}
		}
	}
	if n != 5*6+15*36+216+2*(6+36+216+1296) {
		t.Errorf("%d trees", n)
	}
}

// Each op below each other one, at each place, of all kinds.
func TestEachOpBelowEachOther(t *testing.T) {
	told := map[api.Errno]int{}
	for outer := api.OpOr; outer <= api.OpIf; outer++ {
		for inner := api.OpOr; inner <= api.OpIf; inner++ {
			n := min(counts(outer)[len(counts(outer))-1], 3)
			m := min(counts(inner)[len(counts(inner))-1], 2+n%2)
			if inner == api.OpIf {
				m = 3
			}
			for at := range n {
				for i := range sixes(min(n-1+m, 4)) {
					told[holdModel(t, below(outer, inner, n, m, at, i), full(0))]++
				}
			}
		}
	}
	if told[api.OK] < 5000 || told[api.ErrKind] < 50000 || len(told) != 2 {
		t.Errorf("%v", told)
	}
}

// below is the tree of an op with n expressions, of which the one at that
// place is another op with m.
func below(outer, inner uint8, n, m, at, digits int) api.Expr {
	l := atoms(digits, n-1+m)
	var x api.Expr
	var kids []int
	for i := range n {
		count := 1
		if i == at {
			count = m
		}
		x = append(x, l[:count]...)
		l = l[count:]
		if i == at {
			x = append(x, api.Node{Op: inner, Kids: from(len(x)-m, m)})
		}
		kids = append(kids, len(x)-1)
	}
	return tree(append(x, api.Node{Op: outer, Kids: kids})...)
}

// writer writes expressions by chance, most of them of the kinds that are
// asked; wrong is how often one is not, out of a hundred.
type writer struct {
	r     *rand.Rand
	wrong int
}

func (w writer) one(l ...string) string { return l[w.r.Intn(len(l))] }

// gap is blanks, a line's end, a remark.
func (w writer) gap() string {
	return w.one(" ", " ", "  ", "\n", "\n  ", " ; ?no\n")
}

func (w writer) atom(c byte) string {
	switch c {
	case 'i':
		return w.one("0", "12", "?i", "?i", "?a")
	case 'd':
		return w.one("1.5", "?d", "?d", "?a")
	case 's':
		return w.one(`""`, `"it"`, "?s", "?s", "?c")
	case 'b':
		return w.one("true", "false", "?b", "?b", "?")
	case 'y':
		return w.one("#x", "#a", "?y", "?y")
	}
	return w.one("null", "?n")
}

// of writes an expression of a kind, of at most so many levels.
func (w writer) of(c byte, deep int) string {
	if w.r.Intn(100) < w.wrong {
		c = letters[w.r.Intn(6)]
	}
	if deep == 0 || w.r.Intn(5) == 0 {
		return w.atom(c)
	}
	below := func(c byte) string { return w.of(c, deep-1) }
	if w.r.Intn(8) == 0 {
		return w.call("if", below('b'), below(c), below(c))
	}
	switch c {
	case 'b':
		return w.truth(below)
	case 's':
		return w.call("upper", below('s'))
	case 'i', 'd', 'n':
		return w.number(c, below)
	}
	return w.atom(c)
}

func (w writer) call(word string, l ...string) string {
	return word + w.one("", " ", "\n") + "(" + strings.Join(l, w.one(",", ", ", ",\n")) + ")"
}

func (w writer) infix(op, a, b string) string {
	return "(" + a + w.gap() + op + w.gap() + b + ")"
}

func (w writer) truth(below func(byte) string) string {
	any := letters[w.r.Intn(6)]
	switch w.r.Intn(6) {
	case 0:
		return w.infix(w.one("and", "or"), below('b'), below('b'))
	case 1:
		return "(not " + below('b') + ")"
	case 2:
		return w.infix(w.one("=", "<>"), below(any), below(any))
	case 3:
		return w.infix(w.one("<", "<=", ">", ">="), below('i'), below('d'))
	case 4:
		return w.infix(w.one("<", "<=", ">", ">="), below('s'), below('s'))
	}
	return w.call(w.one("contains", "starts"), below('s'), below('s'))
}

func (w writer) number(c byte, below func(byte) string) string {
	switch w.r.Intn(6) {
	case 0:
		return "(-" + below(c) + ")"
	case 1:
		return w.call("abs", below(c))
	case 2:
		l := []string{below(c)}
		for range w.r.Intn(8) {
			l = append(l, w.atom("nid"[w.r.Intn(3)]))
		}
		return w.call(w.one("min", "max"), l...)
	case 3:
		if c == 'i' {
			return w.one(w.call("mod", below('i'), below('i')), w.call("length", below('s')))
		}
	}
	return w.infix(w.one("+", "-", "*", "/"), below(c), below(c))
}

// chanceScope is a scope of the names that are written, and others, some of
// them twice, missing, or of wrong kinds.
func chanceScope(r *rand.Rand, odd int) api.Scope {
	s := api.Scope{Self: api.Bool}
	for i := range letters {
		s.Vars = append(s.Vars, api.Slot{Name: letters[i : i+1], Kind: uint8(i)})
	}
	s.Vars = append(s.Vars, api.Slot{Name: "a", Kind: uint8(1 + r.Intn(2))}, api.Slot{Name: "c", Kind: api.Str})
	for r.Intn(100) < odd {
		s.Vars[r.Intn(len(s.Vars))].Kind = uint8(r.Intn(9))
	}
	for len(s.Vars) > 0 && r.Intn(100) < odd {
		i := r.Intn(len(s.Vars))
		s.Vars = slices.Delete(s.Vars, i, i+1)
	}
	for r.Intn(100) < odd {
		s.Self = []uint8{0, 1, 2, 3, 5, 6, 255}[r.Intn(7)]
	}
	r.Shuffle(len(s.Vars), func(i, j int) { s.Vars[i], s.Vars[j] = s.Vars[j], s.Vars[i] })
	for r.Intn(100) < 30 {
		s.Vars = append(s.Vars, api.Slot{Name: letters[r.Intn(6):][:1], Kind: uint8(r.Intn(9))})
	}
	return s
}

var remarkOrName = regexp.MustCompile(`;[^\n]*|\?[a-z][a-z0-9]*`)

// namesIn finds variables' names in a text that has no "?" or ";" in strings.
func namesIn(text string) []string {
	var l []string
	for _, s := range remarkOrName.FindAllString(text, -1) {
		if s[0] == '?' && !slices.Contains(l, s[1:]) {
			l = append(l, s[1:])
		}
	}
	return l
}

func TestExpressionsByChance(t *testing.T) {
	r := rand.New(rand.NewSource(9))
	told := map[api.Errno]int{}
	nodes := 0
	for i := range 60000 {
		w := writer{r, []int{0, 2, 10, 60}[i%4]}
		text := w.of(letters[r.Intn(6)], 1+r.Intn(5))
		x, _, e := expr.Read(text)
		if e != api.OK {
			if e != api.ErrFull && e != api.ErrDepth {
				t.Fatalf("Read(%q): %d", text, e)
			}
			continue
		}
		nodes += len(x)
		told[holdModel(t, x, chanceScope(r, []int{0, 20, 50}[i%3]))]++
		if l, want := Names(x), namesIn(text); !slices.Equal(l, want) {
			t.Errorf("Names(%q) = %q; want %q", text, l, want)
		}
	}
	if told[api.OK] < 15000 || told[api.ErrKind] < 10000 || told[api.ErrScope] < 2000 || nodes < 300000 || len(told) != 3 {
		t.Errorf("%v, %d nodes", told, nodes)
	}
}

// spoil changes one thing of a node.
func spoil(r *rand.Rand, x api.Expr) {
	n := &x[r.Intn(len(x))]
	switch r.Intn(6) {
	case 0:
		n.Op = uint8(r.Intn(28))
	case 1:
		n.V.Kind = uint8(r.Intn(8))
	case 2:
		n.Name = []string{"", "a", "zz", "A", "?a"}[r.Intn(5)]
	case 3:
		if len(n.Kids) > 0 {
			n.Kids[r.Intn(len(n.Kids))] += r.Intn(5) - 2
		}
	case 4:
		n.Kids = append(n.Kids, r.Intn(len(x)+2)-1)
	case 5:
		n.V.N = []int64{0, 1, 2, -1, math.MaxInt64, math.MinInt64}[r.Intn(6)]
	}
}

// What is a fault or more away from an expression is one, or tells ErrForm.
func TestExpressionsNearby(t *testing.T) {
	r := rand.New(rand.NewSource(10))
	told := map[api.Errno]int{}
	for range 40000 {
		x, _, e := expr.Read(writer{r, 10}.of(letters[r.Intn(6)], 1+r.Intn(3)))
		if e != api.OK {
			continue
		}
		for range 1 + r.Intn(2) {
			spoil(r, x)
		}
		if eprint.May(x) {
			told[holdModel(t, x, chanceScope(r, 30))]++
			continue
		}
		told[api.ErrForm]++
		if kind, at, e := Of(x, chanceScope(r, 30)); kind != 0 || at != (api.Place{}) || e != api.ErrForm || Names(x) != nil {
			t.Fatalf("Of(%v) = %d, %v, %d; Names %q", x, kind, at, e, Names(x))
		}
	}
	if told[api.OK] < 2000 || told[api.ErrKind] < 800 || told[api.ErrScope] < 300 || told[api.ErrForm] < 10000 || len(told) != 4 {
		t.Errorf("%v", told)
	}
}

// What follows: a kind hangs on the variables that are named alone.
func TestOtherVariablesChangeNothing(t *testing.T) {
	r := rand.New(rand.NewSource(11))
	for range 5000 {
		x, _, e := expr.Read(writer{r, 10}.of(letters[r.Intn(6)], 3))
		if e != api.OK {
			continue
		}
		s := chanceScope(r, 30)
		few := api.Scope{Self: s.Self}
		names := Names(x)
		for _, v := range s.Vars {
			if slices.Contains(names, v.Name) {
				few.Vars = append(few.Vars, v)
			}
		}
		kind, at, why := Of(x, s)
		if k, a, w := Of(x, few); k != kind || a != at || w != why {
			t.Errorf("Of = %d, %v, %d; want %d, %v, %d", k, a, w, kind, at, why)
		}
	}
}
