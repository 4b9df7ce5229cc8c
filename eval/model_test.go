package eval

import (
	"math/rand"
	"slices"
	"strings"
	"testing"

	"witan/api"
	"witan/etype"
	"witan/expr"
	"witan/num"
	"witan/value"
)

// good are values that may be, of every kind.
func good() []api.Value {
	return []api.Value{
		null(), integer(0), integer(1), integer(-1), integer(7), integer(-3), integer(greatest), integer(least), dec(0), dec(1), dec(-1), dec(5000), dec(-25000), dec(10000), dec(greatest), dec(least),
		str(""), str("a"), str("b"), str("ab"), str("AB"), str("Zab{`@[ "), str(strings.Repeat("z", api.MaxText)), truth(0), truth(1), sym("a"), sym("b"), sym("abcdefghijkl"),
	}
}

// wrong are values that may not be.
func wrong() []api.Value {
	return []api.Value{
		{N: 1}, {S: "a"}, {Kind: api.Int, S: "a"}, {Kind: api.Dec, N: 5, S: "a"}, {Kind: api.Str, N: 1}, str("\n"), str("\x7f"), str("é"), str(strings.Repeat("x", api.MaxText+1)),
		truth(2), truth(-1), {Kind: api.Bool, N: 1, S: "a"}, sym(""), sym("A"), sym("abcdefghijklm"), {Kind: api.Sym, N: 1, S: "a"}, {Kind: 6}, {Kind: 255, N: least, S: "a"},
	}
}

// model reads the chapter from the last node down, and asks only what is asked.
// What it was told of a node it keeps, as a node may be asked many times.
type model struct {
	t     api.Expr
	self  api.Value
	vars  []api.Binding
	known map[int]answer
}

func modelOf(t api.Expr, self api.Value, vars []api.Binding) answer {
	if len(t) == 0 {
		return answer{}
	}
	return model{t, self, vars, map[int]answer{}}.of(len(t) - 1)
}

func (m model) of(i int) answer {
	a, ok := m.known[i]
	if !ok {
		a = m.told(i)
		if a.e != api.OK {
			a.v = null()
		}
		m.known[i] = a
	}
	return a
}

// kidNode is the node that is the j-th expression of node i, or none.
func (m model) kidNode(i, j int) (int, bool) {
	for at, k := range m.t[i].Kids {
		if at == j {
			return k, k >= 0 && k < i
		}
	}
	return 0, false
}

func (m model) kid(i, j int) answer {
	if k, ok := m.kidNode(i, j); ok {
		return m.of(k)
	}
	return answer{}
}

// left are the first n expressions' values, or the first error.
func (m model) left(i, n int) ([]api.Value, api.Errno) {
	var l []api.Value
	for j := range n {
		a := m.kid(i, j)
		if a.e != api.OK {
			return nil, a.e
		}
		l = append(l, a.v)
	}
	return l, api.OK
}

func (m model) truth(i, j int) answer {
	a := m.kid(i, j)
	if a.e == api.OK && a.v.Kind != api.Bool && a.v.Kind != api.Null {
		return answer{null(), api.ErrKind}
	}
	return a
}

func (m model) told(i int) answer {
	may := func(v api.Value) answer {
		if value.May(v) {
			return answer{v, api.OK}
		}
		return answer{null(), api.ErrArg}
	}
	n := m.t[i]
	switch n.Op {
	case api.OpLit:
		return may(n.V)
	case api.OpSelf:
		return may(m.self)
	case api.OpVar:
		for _, b := range m.vars {
			if b.Name == n.Name {
				return may(b.V)
			}
		}
		return answer{null(), api.ErrScope}
	case api.OpAnd, api.OpOr:
		return m.both(i, n.Op == api.OpOr)
	case api.OpNot:
		a := m.truth(i, 0)
		if a.v.Kind == api.Bool {
			a.v = truth(1 - a.v.N)
		}
		return a
	case api.OpIf:
		a := m.truth(i, 0)
		if a.e != api.OK || a.v == null() {
			return a
		}
		return m.kid(i, 2-int(a.v.N))
	}
	return m.reckoned(i)
}

func (m model) both(i int, or bool) answer {
	ends := truth(0)
	if or {
		ends = truth(1)
	}
	a := m.truth(i, 0)
	if a.e != api.OK || a.v == ends {
		return a
	}
	b := m.truth(i, 1)
	if b.e != api.OK || b.v == ends || a.v == b.v {
		return b
	}
	return answer{} // one is Null, the other one does not end it
}

// arity is how many expressions an op has that asks them all; -1: as many as there are.
func arity(op uint8) int {
	switch op {
	case api.OpEq, api.OpNe, api.OpLt, api.OpLe, api.OpGt, api.OpGe, api.OpAdd, api.OpSub, api.OpMul, api.OpDiv, api.OpMod, api.OpHas, api.OpHead:
		return 2
	case api.OpNeg, api.OpAbs, api.OpLen, api.OpUp:
		return 1
	case api.OpMin, api.OpMax:
		return -1
	}
	return 0
}

// kinds are the letters of values' kinds.
func kinds(l []api.Value) string {
	var b []byte
	for _, v := range l {
		b = append(b, "nidsby"[v.Kind])
	}
	return string(b)
}

func only(s, letters string) bool { return strings.Trim(s, letters) == "" }

func (m model) reckoned(i int) answer {
	n := m.t[i]
	count := arity(n.Op)
	if count == 0 {
		return answer{null(), api.ErrArg}
	}
	if count < 0 {
		count = len(n.Kids)
	}
	l, e := m.left(i, count)
	if e != api.OK {
		return answer{null(), e}
	}
	k := kinds(l)
	switch n.Op {
	case api.OpEq, api.OpNe:
		return m.equal(i, l)
	case api.OpLt, api.OpLe, api.OpGt, api.OpGe:
		if !only(k, "nid") && !only(k, "ns") {
			return answer{null(), api.ErrKind}
		}
		return compare(n.Op, l[0], l[1])
	case api.OpMod:
		return ofLetter(k, "i", func() answer {
			r, e := num.Mod(l[0].N, l[1].N)
			return answer{integer(r), e}
		})
	case api.OpLen, api.OpUp, api.OpHas, api.OpHead:
		return ofLetter(k, "s", func() answer { return answer{ofTextsModel(n.Op, l), api.OK} })
	}
	v, e := ofNumbers(n.Op, l)
	return answer{v, e}
}

func ofLetter(k, letter string, f func() answer) answer {
	if !only(k, "n"+letter) {
		return answer{null(), api.ErrKind}
	}
	if strings.Contains(k, "n") {
		return answer{}
	}
	return f()
}

func ofTextsModel(op uint8, l []api.Value) api.Value {
	switch op {
	case api.OpLen:
		n := 0
		for range []byte(l[0].S) {
			n++
		}
		return integer(int64(n))
	case api.OpUp:
		return str(strings.ToUpper(l[0].S)) // of these bytes alone the same
	case api.OpHas:
		for from := range len(l[0].S) + 1 {
			if begins(l[0].S[from:], l[1].S) {
				return truth(1)
			}
		}
		return truth(0)
	}
	return value.Truth(begins(l[0].S, l[1].S))
}

func begins(s, part string) bool { return len(s) >= len(part) && s[:len(part)] == part }

func ofNumbers(op uint8, l []api.Value) (api.Value, api.Errno) {
	switch op {
	case api.OpAdd:
		return value.Add(l[0], l[1])
	case api.OpSub:
		return value.Sub(l[0], l[1])
	case api.OpMul:
		return value.Mul(l[0], l[1])
	case api.OpDiv:
		return value.Div(l[0], l[1])
	case api.OpMin:
		return value.Least(l...)
	case api.OpMax:
		return value.Most(l...)
	case api.OpAbs:
		if c, ok := value.Compare(l[0], integer(0)); !ok || c >= 0 {
			_, e := value.Neg(l[0])
			if e == api.ErrKind {
				return null(), e
			}
			return l[0], api.OK
		}
	}
	return value.Neg(l[0])
}

func (m model) equal(i int, l []api.Value) answer {
	for j := range 2 {
		if k, ok := m.kidNode(i, j); ok && m.t[k].Op == api.OpLit && m.t[k].V == null() {
			return answer{value.Truth((l[1-j] == null()) == (m.t[i].Op == api.OpEq)), api.OK}
		}
	}
	return compare(m.t[i].Op, l[0], l[1])
}

func compare(op uint8, a, b api.Value) answer {
	if a == null() || b == null() {
		return answer{}
	}
	c, ok := value.Compare(a, b)
	if !ok {
		return answer{null(), api.ErrKind}
	}
	so := map[uint8][]int{api.OpEq: {0}, api.OpNe: {-1, 1}, api.OpLt: {-1}, api.OpLe: {-1, 0}, api.OpGt: {1}, api.OpGe: {0, 1}}
	return answer{value.Truth(slices.Contains(so[op], c)), api.OK}
}

// holdModel holds Value against the model, and tells its error.
func holdModel(t *testing.T, x api.Expr, self api.Value, vars []api.Binding) answer {
	t.Helper()
	want := modelOf(x, self, vars)
	if v, e := Value(x, self, vars); v != want.v || e != want.e {
		t.Errorf("Value(%.500v, %v, %.300v) = %.300v, %d; want %.300v, %d", x, self, vars, v, e, want.v, want.e)
	}
	return want
}

// faults are nodes that tell an error each.
func faults() []api.Node {
	return []api.Node{{Op: api.OpVar, Name: "z"}, {Op: api.OpVar, Name: "bad"}, {Op: 99}, {Op: api.OpLit, V: truth(2)}, {Op: api.OpHas, Kids: []int{0, 0}}}
}

// atoms are nodes that tell each good value, as a literal and as a variable, and the faults.
func atoms() (api.Expr, []api.Binding) {
	vars := []api.Binding{{Name: "bad", V: truth(2)}}
	l := api.Expr{{Op: api.OpLit, V: sym("a")}}
	for i, v := range good() {
		name := "v" + string(rune('a'+i))
		vars = append(vars, api.Binding{Name: name, V: v})
		l = append(l, api.Node{Op: api.OpLit, V: v}, api.Node{Op: api.OpVar, Name: name})
	}
	return append(l, faults()...), vars
}

// Each op, whichever, of all pairs of atoms, and with fewer expressions than it has.
func TestEachOpOfAllPairs(t *testing.T) {
	l, vars := atoms()
	told := map[api.Errno]int{}
	for op := range 256 {
		few := l
		if op > int(api.OpIf)+1 {
			few = l[:3]
		}
		for a := -1; a < len(few); a++ {
			told[holdModel(t, append(slices.Clone(few), api.Node{Op: uint8(op), Kids: []int{a}}), integer(5), vars).e]++
			for b := range few {
				told[holdModel(t, append(slices.Clone(few), api.Node{Op: uint8(op), Kids: []int{a, b}}), integer(5), vars).e]++
			}
		}
		told[holdModel(t, append(slices.Clone(few), api.Node{Op: uint8(op)}), integer(5), vars).e]++
	}
	if told[api.OK] < 20000 || told[api.ErrKind] < 20000 || told[api.ErrArg] < 10000 || told[api.ErrScope] < 1500 || told[api.ErrDiv] < 30 || told[api.ErrOver] < 300 || len(told) != 6 {
		t.Errorf("%v", told)
	}
}

// Ops of three and more, of some atoms of each kind, and of faults.
func TestOpsOfMany(t *testing.T) {
	few := []api.Value{null(), integer(3), integer(greatest), dec(5000), str("a"), truth(0), truth(1), sym("a")}
	var l api.Expr
	for _, v := range few {
		l = append(l, api.Node{Op: api.OpLit, V: v})
	}
	l = append(l, api.Node{Op: api.OpVar, Name: "z"}, api.Node{Op: 77})
	for _, op := range []uint8{api.OpIf, api.OpMin, api.OpMax, api.OpAnd, api.OpOr, api.OpEq} {
		for a := range l {
			for b := range l {
				for c := range l {
					holdModel(t, append(slices.Clone(l), api.Node{Op: op, Kids: []int{a, b, c}}), null(), nil)
					holdModel(t, append(slices.Clone(l), api.Node{Op: op, Kids: []int{a, b, c, a, b, c, a, b, c, 1}}), null(), nil)
				}
			}
		}
	}
}

// chanceNodes are any nodes: most of their ops and expressions are some.
func chanceNodes(r *rand.Rand, n int, may, not []api.Value) api.Expr {
	var l api.Expr
	for i := range n {
		x := api.Node{Op: uint8(1 + r.Intn(26)), Name: []string{"a", "b", "c", "", "z"}[r.Intn(5)], V: oneOf(r, may)}
		if i == 0 || r.Intn(3) == 0 {
			x.Op = []uint8{api.OpLit, api.OpLit, api.OpVar, api.OpSelf}[r.Intn(4)]
		}
		switch r.Intn(40) {
		case 0:
			x.Op = uint8(r.Intn(256))
		case 1:
			x.V = oneOf(r, not)
		}
		for range []int{0, 1, 2, 2, 2, 3, 3, 4}[r.Intn(8)] {
			x.Kids = append(x.Kids, chanceKid(r, i, n))
		}
		l = append(l, x)
	}
	return l
}

func oneOf(r *rand.Rand, l []api.Value) api.Value { return l[r.Intn(len(l))] }

func chanceKid(r *rand.Rand, i, n int) int {
	switch r.Intn(30) {
	case 0:
		return []int{-1, i, i + 1, n - 1, n, n + 1, least, greatest, -n, 1 << 32, -1 << 32, 1 << 62}[r.Intn(12)]
	case 1:
		return r.Intn(n)
	}
	if i == 0 {
		return 0
	}
	return i - 1 - r.Intn(min(i, 6))
}

func chanceVars(r *rand.Rand, may, not []api.Value) []api.Binding {
	var l []api.Binding
	for range r.Intn(8) {
		b := api.Binding{Name: []string{"a", "b", "c", "", "d"}[r.Intn(5)], V: oneOf(r, may)}
		if r.Intn(10) == 0 {
			b.V = oneOf(r, not)
		}
		l = append(l, b)
	}
	return l
}

func TestAnyNodes(t *testing.T) {
	r := rand.New(rand.NewSource(10))
	told := map[api.Errno]int{}
	values := map[uint8]int{}
	may, not := good(), wrong()
	for range 100000 {
		x := chanceNodes(r, 1+r.Intn(12), may, not)
		self := oneOf(r, may)
		if r.Intn(20) == 0 {
			self = oneOf(r, not)
		}
		a := holdModel(t, x, self, chanceVars(r, may, not))
		told[a.e]++
		if a.e == api.OK {
			values[a.v.Kind]++
		}
	}
	for _, e := range []api.Errno{api.ErrKind, api.ErrArg, api.ErrScope, api.ErrDiv, api.ErrOver} {
		if told[e] < 100 {
			t.Errorf("%v", told)
		}
	}
	for kind := range uint8(6) {
		if values[kind] < 1000 {
			t.Errorf("%v", values)
		}
	}
}

// writer writes expressions of a kind by chance, with variables by the letters of kinds.
type writer struct{ r *rand.Rand }

func (w writer) one(l ...string) string { return l[w.r.Intn(len(l))] }

func (w writer) of(c byte, deep int) string {
	if deep == 0 || w.r.Intn(5) == 0 {
		return map[byte]string{'n': w.one("null", "?n"), 'i': w.one("0", "1", "7", "?i", "?i", "null"), 'd': w.one("0.0", "1.5", "?d", "?d"), 's': w.one(`""`, `"a"`, "?s", "?s", "?s"), 'b': w.one("true", "false", "?b", "?b"), 'y': w.one("#a", "?y")}[c]
	}
	below := func(c byte) string { return w.of(c, deep-1) }
	if w.r.Intn(7) == 0 {
		return "if(" + below('b') + ", " + below(c) + ", " + below(c) + ")"
	}
	switch c {
	case 's':
		return "upper(" + below('s') + ")"
	case 'b':
		any := "nidsby"[w.r.Intn(6)]
		return w.one("("+below('b')+w.one(" and ", " or ")+below('b')+")", "(not "+below('b')+")", "("+below(any)+w.one(" = ", " <> ")+below(any)+")",
			"("+below('i')+w.one(" < ", " <= ", " > ", " >= ")+below('d')+")", "("+below('s')+w.one(" < ", " >= ")+below('s')+")", w.one("contains(", "starts(")+below('s')+", "+below('s')+")")
	case 'i', 'd':
		l := []string{"(" + below(c) + w.one(" + ", " - ", " * ", " / ") + below(c) + ")", "(-" + below(c) + ")", "abs(" + below(c) + ")", w.one("min(", "max(") + below('i') + ", " + below(c) + ")"}
		if c == 'i' {
			l = append(l, "mod("+below('i')+", "+below('i')+")", "length("+below('s')+")")
		}
		return w.one(l...)
	}
	return w.of(c, 0)
}

// What follows: of an expression of a kind the value is of that kind, or Null, or an error that numbers alone tell.
func TestKindsAreKept(t *testing.T) {
	r := rand.New(rand.NewSource(11))
	s := api.Scope{}
	for i, c := range "nidsby" {
		s.Vars = append(s.Vars, api.Slot{Name: string(c), Kind: uint8(i)})
	}
	told := map[api.Errno]int{}
	for range 30000 {
		s.Self = uint8(1 + r.Intn(5))
		x, _, e := expr.Read(writer{r}.of("nidsby"[r.Intn(6)], 1+r.Intn(4)))
		kind, _, wrong := etype.Of(x, s)
		if e != api.OK || wrong != api.OK {
			told[api.ErrForm]++
			continue
		}
		a := holdModel(t, x, ofKindOrNull(r, s.Self), bindingsOf(r, s.Vars))
		told[a.e]++
		if a.e == api.OK && a.v.Kind != kind && a.v != null() || a.e != api.OK && a.e != api.ErrOver && a.e != api.ErrDiv {
			t.Fatalf("Value(%v) = %v, %d; of kind %d", x, a.v, a.e, kind)
		}
	}
	if told[api.OK] < 15000 || told[api.ErrOver] < 300 || told[api.ErrDiv] < 300 || told[api.ErrForm] > 3000 {
		t.Errorf("%v", told)
	}
}

func ofKindOrNull(r *rand.Rand, kind uint8) api.Value {
	l := slices.DeleteFunc(good(), func(v api.Value) bool { return v.Kind != kind && v.Kind != api.Null })
	return l[r.Intn(len(l))]
}

func bindingsOf(r *rand.Rand, l []api.Slot) []api.Binding {
	var vars []api.Binding
	for _, s := range l {
		vars = append(vars, api.Binding{Name: s.Name, V: ofKindOrNull(r, s.Kind)})
	}
	return vars
}
