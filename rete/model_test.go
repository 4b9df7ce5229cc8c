package rete

import (
	"cmp"
	"fmt"
	"math"
	"math/rand"
	"reflect"
	"slices"
	"strconv"
	"strings"
	"testing"

	"witan/api"
	"witan/eval"
	"witan/passes"
	"witan/plan"
	"witan/rule"
	"witan/unary"
	"witan/vtext"
)

// row is a tuple of facts, and what is bound by them.
type row struct {
	tuple []int
	vars  []api.Binding
}

// match is one, and what it binds.
type match struct {
	act  api.Act
	vars []api.Binding
}

// held is a network, and all that its answers hang on: the program, its plan, and the
// facts that are there, in the order in which they came.
type held struct {
	t       *testing.T
	net     *Net
	program api.Program
	plan    api.Plan
	facts   []api.Fact
	matches []match
	told    []answer
	turn    int
}

// answer is a list that was told before, written over or not, and what it was when
// the call was over.
type answer struct {
	list any
	was  string
}

// hold makes the network, and writes over what was handed in; none, if the program is
// not well-formed.
func hold(t *testing.T, p api.Program) *held {
	t.Helper()
	h := &held{t: t, program: copyOf(p)}
	x, want := plan.Of(h.program)
	h.plan = x
	handing(h, p, func(p api.Program) {
		var e api.Errno
		h.net, e = New(p)
		h.holdErrno("New", e, want)
	})
	if want != api.OK {
		if h.net != nil || want != api.ErrForm {
			t.Error("New tells one,", want)
		}
		return nil
	}
	h.change()
	h.all(nil)
	return h
}

// rows tells those of conditions by trying each fact at each pattern.
func (h *held) rows(conds []api.Cond) []row {
	l := []row{{}}
	for _, c := range conds {
		var next []row
		for _, x := range l {
			next = append(next, h.behind(c, x)...)
		}
		l = next
	}
	return l
}

// behind tells the rows that a condition makes of one.
func (h *held) behind(c api.Cond, x row) []row {
	var l []row
	let := false
	switch c.Kind {
	case api.CondIs:
		for _, f := range h.facts {
			if vars, ok := passes.Pass(h.program.Templates, c.Patterns[0], f, x.vars); ok {
				l = append(l, row{append(slices.Clone(x.tuple), f.ID), vars})
			}
		}
	case api.CondNot, api.CondNone:
		let = !h.goTogether(c.Patterns, x.vars)
	case api.CondExists:
		let = h.goTogether(c.Patterns, x.vars)
	case api.CondTest:
		v, e := eval.Value(c.Test, api.Value{Kind: api.Null}, x.vars)
		let = e == api.OK && v.Kind == api.Bool && v.N == 1
	}
	if let {
		l = append(l, x)
	}
	return l
}

// goTogether tells whether facts pass patterns, one by one.
func (h *held) goTogether(l []api.Pattern, vars []api.Binding) bool {
	if len(l) == 0 {
		return true
	}
	return slices.ContainsFunc(h.facts, func(f api.Fact) bool {
		bound, ok := passes.Pass(h.program.Templates, l[0], f, vars)
		return ok && h.goTogether(l[1:], bound)
	})
}

func compareActs(a, b api.Act) int {
	return cmp.Or(a.Rule-b.Rule, slices.Compare(a.Tuple, b.Tuple))
}

// change works all matches out anew, and tells those that are gone, and those that
// are new.
func (h *held) change() (gone, come []api.Act) {
	before := h.matches
	h.matches = nil
	for i, r := range h.program.Rules {
		for _, x := range h.rows(r.Conds) {
			h.matches = append(h.matches, match{api.Act{Rule: i, Tuple: x.tuple, Salience: r.Salience}, x.vars})
		}
	}
	slices.SortFunc(h.matches, func(a, b match) int { return compareActs(a.act, b.act) })
	return without(before, h.matches), without(h.matches, before)
}

// without tells the matches of a sorted list that another one does not have.
func without(l, others []match) []api.Act {
	var out []api.Act
	for _, m := range l {
		if _, ok := find(others, m.act); !ok {
			out = append(out, m.act)
		}
	}
	return out
}

// find tells the place of a match in a sorted list, and whether it is there.
func find(l []match, a api.Act) (int, bool) {
	return slices.BinarySearchFunc(l, a, func(m match, a api.Act) int {
		return cmp.Or(cmp.Compare(m.act.Rule, a.Rule), slices.Compare(m.act.Tuple, a.Tuple))
	})
}

// keep writes over each second answer, and keeps some of the last of them all.
func (h *held) keep(list any) {
	if h.turn++; h.turn%2 == 0 {
		spoil(reflect.ValueOf(list))
	}
	h.told = append(h.told, answer{list, whole(list)})
	if more := len(h.told) - 40; more > 0 {
		h.told = h.told[more:]
	}
}

// show tells acts as "rule:id,id rule:id".
func show(l []api.Act) string {
	var words []string
	for _, a := range l {
		var ids []string
		for _, id := range a.Tuple {
			ids = append(ids, strconv.Itoa(id))
		}
		words = append(words, strconv.Itoa(a.Rule)+":"+strings.Join(ids, ","))
	}
	return strings.Join(words, " ")
}

// conditions tells those of the program, as far as a failed test needs them.
func (h *held) conditions() string {
	var l []string
	for _, r := range h.program.Rules {
		l = append(l, plain(r.Conds))
	}
	return short(strings.Join(l, "; "))
}

// wrong tells of a call that told one thing, not another one.
func (h *held) wrong(call string, got, want any) {
	h.t.Helper()
	h.t.Errorf("%s: %v, not %v; of %s, %s", call, short(fmt.Sprint(got)), short(fmt.Sprint(want)), plain(h.facts), h.conditions())
}

// plain writes a value without the places in it.
func plain(v any) string { return short(fmt.Sprint(v)) }

func (h *held) holdErrno(call string, got, want api.Errno) {
	h.t.Helper()
	if got != want {
		h.wrong(call, got, want)
	}
}

func (h *held) holdActs(call string, got, want []api.Act) {
	h.t.Helper()
	if !slices.EqualFunc(got, want, func(a, b api.Act) bool { return compareActs(a, b) == 0 && a.Salience == b.Salience }) {
		h.wrong(call, show(got), show(want))
	}
	h.keep(got)
}

func (h *held) holdNumbers(call string, got, want []int) {
	h.t.Helper()
	if !slices.Equal(got, want) {
		h.wrong(call, got, want)
	}
	h.keep(got)
}

// holdVars asks for what an act binds, with whatever salience.
func (h *held) holdVars(a api.Act) {
	h.t.Helper()
	a.Salience += 7
	var want []api.Binding
	if i, ok := find(h.matches, a); ok {
		want = h.matches[i].vars
	}
	handing(h, a, func(in api.Act) {
		got := h.net.Vars(in)
		if !slices.Equal(got, want) {
			h.wrong("Vars "+show([]api.Act{a}), got, want)
		}
		h.keep(got)
	})
}

// around tells an act, and some that are nearly that.
func around(a api.Act) []api.Act {
	l := []api.Act{a}
	for _, more := range []int{-1, 1, math.MinInt, math.MaxInt} {
		l = append(l, api.Act{Rule: a.Rule + more, Tuple: a.Tuple})
	}
	tuples := [][]int{nil, append(slices.Clone(a.Tuple), 0), append(slices.Clone(a.Tuple), 1), append([]int{0}, a.Tuple...)}
	for i := range a.Tuple {
		tuples = append(tuples, a.Tuple[:i], a.Tuple[i+1:])
		for _, id := range []int{0, a.Tuple[i] + 1, -a.Tuple[i], a.Tuple[i] + 1<<32} {
			c := slices.Clone(a.Tuple)
			c[i] = id
			tuples = append(tuples, c)
		}
	}
	for _, tuple := range tuples {
		l = append(l, api.Act{Rule: a.Rule, Tuple: tuple})
	}
	return l
}

// sizes tells of each of the plan's nodes how many rows its way's conditions have.
func (h *held) sizes() []int {
	var l []int
	for i := range h.plan.Nodes {
		var conds []api.Cond
		for n := i; n > 0; n = h.plan.Nodes[n].Parent {
			conds = append([]api.Cond{h.plan.Nodes[n].Cond}, conds...)
		}
		l = append(l, len(h.rows(conds)))
	}
	return l
}

// alphaRows counts the facts of all alpha nodes.
func (h *held) alphaRows() int {
	n := 0
	for i := range h.plan.Alphas {
		for _, f := range h.facts {
			if h.passes(i, f) {
				n++
			}
		}
	}
	return n
}

func (h *held) passes(i int, f api.Fact) bool {
	a := h.plan.Alphas[i]
	if a.Parent < 0 {
		return f.T == a.T
	}
	return h.passes(a.Parent, f) && a.Slot < len(f.S) && unary.Pass(a.Test, f.S[a.Slot], nil)
}

// most counts the rows of all rules' beginnings.
func (h *held) most() int {
	n := 0
	for _, r := range h.program.Rules {
		for i := range r.Conds {
			n += len(h.rows(r.Conds[:i+1]))
		}
	}
	return n
}

// all asks the network all there is to be told, also of acts that are gone.
func (h *held) all(gone []api.Act) {
	h.t.Helper()
	var acts []api.Act
	for _, m := range h.matches {
		acts = append(acts, m.act)
	}
	h.holdActs("Acts", h.net.Acts(), acts)
	for _, m := range h.matches {
		h.holdVars(m.act)
	}
	for _, a := range gone {
		h.holdVars(a)
	}
	if len(acts) > 0 {
		for _, a := range around(acts[h.turn%len(acts)]) {
			h.holdVars(a)
		}
	}
	sizes := h.sizes()
	h.holdNumbers("Sizes", h.net.Sizes(), sizes)
	sum := -sizes[0]
	for _, n := range sizes {
		sum += n
	}
	if n := h.net.Tokens(); n != sum || n > h.most() {
		h.wrong("Tokens", n, fmt.Sprint(sum, " of ", h.most()))
	}
	if n := h.net.Rows(); n != h.alphaRows() {
		h.wrong("Rows", n, h.alphaRows())
	}
	for _, a := range h.told {
		if whole(a.list) != a.was {
			h.t.Errorf("what was told was %s, and is %s", short(a.was), short(whole(a.list)))
		}
	}
}

// handing hands a copy in, which is to stay as it is, and writes over it.
func handing[T any](h *held, x T, call func(x T)) {
	h.t.Helper()
	in := room(x)
	before := whole(in)
	call(in)
	if after := whole(in); after != before {
		h.t.Errorf("handed in was %s, and is %s", short(before), short(after))
	}
	spoil(reflect.ValueOf(in))
}

func (h *held) find(id int) int {
	return slices.IndexFunc(h.facts, func(f api.Fact) bool { return f.ID == id })
}

// add hands a fact in, and tells what is wanted of that.
func (h *held) add(f api.Fact) (gone, come []api.Act, want api.Errno) {
	h.t.Helper()
	switch {
	case f.ID < 1:
		want = api.ErrArg
	case h.find(f.ID) >= 0:
		want = api.ErrTwice
	default:
		h.facts = append(h.facts, copyOf(f))
		gone, come = h.change()
	}
	handing(h, f, func(in api.Fact) {
		a, b, e := h.net.Add(in)
		h.holdCall("Add "+plain(f), a, b, e, gone, come, want)
	})
	h.all(gone)
	return gone, come, want
}

// remove lets a fact go, and tells what is wanted of that.
func (h *held) remove(id int) (gone, come []api.Act, want api.Errno) {
	h.t.Helper()
	want = api.ErrNone
	if i := h.find(id); i >= 0 {
		h.facts, want = slices.Delete(h.facts, i, i+1), api.OK
		gone, come = h.change()
	}
	a, b, e := h.net.Remove(id)
	h.holdCall("Remove "+strconv.Itoa(id), a, b, e, gone, come, want)
	h.all(gone)
	return gone, come, want
}

func (h *held) holdCall(call string, a, b []api.Act, e api.Errno, gone, come []api.Act, want api.Errno) {
	h.t.Helper()
	h.holdErrno(call, e, want)
	if want != api.OK && (a != nil || b != nil) {
		h.wrong(call+", beside an error", show(a), show(b))
	}
	if !areApart(spans([][]api.Act{a, b})) {
		h.wrong(call, "memory", "its own")
	}
	h.holdActs(call+", gone", a, gone)
	h.holdActs(call+", new", b, come)
}

// one tells the value of a text. Some that may not be have words of their own.
func one(text string) api.Value {
	switch text {
	case "bad":
		return api.Value{Kind: api.Bool, N: 2}
	case "worse":
		return api.Value{Kind: 255, N: -1, S: "\xff"}
	}
	v, e := vtext.Parse(text)
	if e != api.OK {
		panic("no value's text: " + text)
	}
	return v
}

// values tells those of texts with a blank between.
func values(s string) []api.Value {
	var l []api.Value
	for _, w := range strings.Fields(s) {
		l = append(l, one(w))
	}
	return l
}

const usual = "template a x:int y:int template b z:int template c s:str w:dec v:int template d q:bool\n"

// source tells the text of rules of such conditions, each with a salience of its own.
func source(rules []string) string {
	s := usual
	for i, conds := range rules {
		s += fmt.Sprintf("rule r%d %d when %s then halt end\n", i, 3*i%7-3, conds)
	}
	return s
}

// program tells one of rules of such conditions.
func program(t testing.TB, rules ...string) api.Program {
	t.Helper()
	p, at, e := rule.Parse(source(rules))
	if e != api.OK {
		t.Fatalf("%v: %v, %d", rules, at, e)
	}
	return p
}

// seen counts what calls by chance told.
type seen map[string]int

func (s seen) call(name string, gone, come []api.Act, e api.Errno) {
	s[fmt.Sprint(name, " ", e)]++
	if e == api.OK {
		s[fmt.Sprint(name, " gone ", min(3, len(gone)))]++
		s[fmt.Sprint(name, " new ", min(3, len(come)))]++
		if len(gone) > 0 && len(come) > 0 {
			s[name+" both"]++
		}
	}
}

func (s seen) hold(t *testing.T, least map[string]int) {
	t.Helper()
	for what, n := range least {
		if s[what] < n {
			t.Errorf("%s: %d times alone; %v", what, s[what], s)
		}
	}
}

// chance lets facts come and go, of few numbers, so that many are there already.
func (h *held) chance(r *rand.Rand, calls int, s seen, fact func() api.Fact) {
	h.t.Helper()
	for range calls {
		f := fact()
		if r.Intn(3) < 2 {
			gone, come, e := h.add(f)
			s.call("Add", gone, come, e)
		} else {
			gone, come, e := h.remove(f.ID)
			s.call("Remove", gone, come, e)
		}
		s["matches "+strconv.Itoa(min(5, len(h.matches)))]++
		if h.t.Failed() {
			h.t.FailNow()
		}
	}
}

// again holds a network of the same facts, which came in another order, against this
// one.
func (h *held) again(r *rand.Rand) {
	h.t.Helper()
	n, _ := New(h.program)
	for _, i := range r.Perm(len(h.facts)) {
		n.Add(h.facts[i])
	}
	h.holdActs("another network's Acts", n.Acts(), h.net.Acts())
	h.holdNumbers("another network's Sizes", n.Sizes(), h.net.Sizes())
	for _, m := range h.matches {
		if !slices.Equal(n.Vars(m.act), m.vars) {
			h.wrong("another network's Vars", n.Vars(m.act), m.vars)
		}
	}
}

// leave lets all facts go, in any order.
func (h *held) leave(r *rand.Rand) {
	h.t.Helper()
	for _, i := range r.Perm(len(h.facts)) {
		i = min(i, len(h.facts)-1)
		h.remove(h.facts[i].ID)
	}
	h.asAtFirst()
}

// asAtFirst holds the network against one without facts.
func (h *held) asAtFirst() {
	h.t.Helper()
	n, _ := New(h.program)
	h.holdActs("Acts at first", h.net.Acts(), n.Acts())
	h.holdNumbers("Sizes at first", h.net.Sizes(), n.Sizes())
	if h.net.Rows() != 0 || h.net.Tokens() != n.Tokens() || kept(h.net) != kept(n) {
		h.wrong("what is kept", kept(h.net), kept(n))
	}
}

// kept tells how much a network keeps: tokens, rows, what is bound, and gates' lefts
// and rights.
func kept(n *Net) string {
	l := []int{n.tokens.Len(), len(n.vars)}
	for _, x := range n.nodes {
		l = append(l, len(x.rows))
		switch g := x.gate.(type) {
		case joined:
			l = append(l, len(g.in.Lefts()), len(g.in.Rights()))
		case sieve:
			switch in := g.in.(type) {
			case interface {
				Lefts() []int
				Rights() []int
			}:
				l = append(l, len(in.Lefts()), len(in.Rights()))
			case interface{ All() []int }:
				l = append(l, len(in.All()))
			}
		}
	}
	return fmt.Sprint(l)
}

// writer writes conditions by chance, and knows which variables are bound.
type writer struct {
	r     *rand.Rand
	bound []string
	is    int
}

func (w *writer) one(l ...string) string { return l[w.r.Intn(len(l))] }

// slotTest writes what is asked of a slot that holds a whole number.
func (w *writer) slotTest() string {
	if w.r.Intn(2) == 0 {
		name := w.one("n", "m", "k")
		if !slices.Contains(w.bound, name) {
			w.bound = append(w.bound, name)
		}
		return "?" + name
	}
	if len(w.bound) == 0 || w.r.Intn(3) == 0 {
		return w.one("1", "> 0", "1, 2", "not(1)", "[0 .. 1]", "-", "null", "> 6 / ?", "> 6 / 0")
	}
	v := "?" + w.one(w.bound...)
	return w.one("> "+v, ">= "+v, "not("+v+")", "["+v+" .. 2]", v+", 0", "> 6 / "+v, "< "+v+" + 1", "< ? * "+v)
}

func (w *writer) pattern() string {
	switch w.r.Intn(10) {
	case 0:
		return w.one("c()", "d(q: true)", "c(s: \"u\")", "c(w: > 0.5)")
	case 1:
		return w.one("a()", "b()")
	case 2, 3:
		return "b(z: " + w.slotTest() + ")"
	case 4:
		return "c(v: " + w.slotTest() + ")"
	case 5, 6:
		return "a(" + w.one("x", "y") + ": " + w.slotTest() + ")"
	}
	first := w.slotTest()
	return "a(x: " + first + ", y: " + w.slotTest() + ")"
}

// inside writes what binds nothing behind it.
func (w *writer) inside(write func() string) string {
	bound := slices.Clone(w.bound)
	s := write()
	w.bound = bound
	return s
}

func (w *writer) group() string {
	s := w.pattern()
	for range w.r.Intn(3) {
		s += " " + w.pattern()
	}
	return "not (" + s + ")"
}

func (w *writer) test() string {
	if len(w.bound) == 0 || w.r.Intn(3) == 0 {
		return "test " + w.one("true", "true", "1 < 2", "1 < 2", "false", "null", "1 / 0 = 1")
	}
	v, u := "?"+w.one(w.bound...), "?"+w.one(w.bound...)
	return "test " + w.one(v+" < "+u, v+" = "+u, "6 / "+v+" > 2", v+" + 9223372036854775806 > 0", v+" > 0 or "+u+" > 1", v+" = null", "if("+v+" = 1, true, null)")
}

func (w *writer) cond() string {
	switch w.r.Intn(10) {
	case 0:
		return w.inside(func() string { return "not " + w.pattern() })
	case 1, 2:
		return w.inside(func() string { return "exists " + w.pattern() })
	case 3:
		return w.inside(w.group)
	case 4:
		return w.test()
	}
	if w.is++; w.is > 3 {
		return w.test()
	}
	return w.pattern()
}

// rules writes those of a program, of which some begin as others do.
func rules(r *rand.Rand) []string {
	var l []string
	for range r.Intn(4) + 1 {
		w := writer{r: r}
		var conds []string
		for range r.Intn(5) {
			conds = append(conds, w.cond())
		}
		l = append(l, strings.Join(conds, " "))
		if r.Intn(3) == 0 {
			l = append(l, strings.Join(append(conds, w.cond()), " "))
		}
	}
	return l
}

// anyFact tells one with whole numbers mostly, of few numbers.
func anyFact(r *rand.Rand) api.Fact {
	f := api.Fact{ID: r.Intn(9), T: []int{0, 0, 0, 0, 0, 0, 1, 1, 1, 1, 2, 2, 3, 4, -1}[r.Intn(15)]}
	pool := []string{"0", "1", "1", "1", "2", "2", "null", "1.0", "\"u\"", "true", "bad"}
	n := []int{2, 1, 3, 1}[max(0, f.T)%4]
	if r.Intn(15) == 0 {
		n = r.Intn(5)
	}
	for range n {
		f.S = append(f.S, one(pool[r.Intn(6)]))
	}
	if n == 3 {
		f.S[0], f.S[1] = one("\"u\""), one("0.75")
	}
	if n > 0 && r.Intn(8) == 0 {
		f.S[r.Intn(n)] = one(pool[r.Intn(len(pool))])
	}
	if f.T == 3 && n > 0 && r.Intn(2) == 0 {
		f.S[0] = one("true")
	}
	return f
}

// P25.1 to P25.4: programs and facts by chance.
func TestByChance(t *testing.T) {
	r := rand.New(rand.NewSource(1))
	s := seen{}
	for range 1500 {
		h := hold(t, program(t, rules(r)...))
		s["nodes "+strconv.Itoa(min(len(h.plan.Nodes), 9))]++
		h.chance(r, 30, s, func() api.Fact { return anyFact(r) })
		h.again(r)
		h.leave(r)
		if t.Failed() {
			t.Fatal(h.conditions())
		}
	}
	least := map[string]int{"Add both": 60, "Remove both": 25, "nodes 1": 40, "nodes 2": 60, "nodes 9": 300}
	for n, times := range []int{9000, 1000, 300, 300} {
		least[fmt.Sprint("Add new ", n)], least[fmt.Sprint("Remove gone ", n)] = times, times/2
	}
	for n, times := range []int{5000, 80, 20, 10} {
		least[fmt.Sprint("Add gone ", n)], least[fmt.Sprint("Remove new ", n)] = times, times
	}
	for n, times := range []int{10000, 9000, 5000, 3000, 1500, 2000} {
		least[fmt.Sprint("matches ", n)] = times
	}
	for what, e := range map[string]api.Errno{"Add": api.ErrTwice, "Add ": api.ErrArg, "Remove": api.ErrNone} {
		least[fmt.Sprint(strings.TrimSpace(what), " ", e)] = 2000
	}
	s.hold(t, least)
}

// P25.1 to P25.4: conditions of each of the five kinds, behind and ahead of each
// other, as one rule, and a second one that begins likewise, beside one whose matches
// come with what others go with.
func TestKinds(t *testing.T) {
	r := rand.New(rand.NewSource(2))
	s := seen{}
	conds := []string{
		"a(x: ?n, y: ?m)", "b(z: ?n)", "a(y: ?n)", "not b(z: ?n)", "not a(x: ?n, y: ?n)", "exists b(z: ?n)", "exists a(x: ?n)",
		"not (a(x: ?n) b(z: ?n))", "not (b(z: ?n) a(x: ?m, y: ?n))", "test 1 < 2", "test ?n > 0",
	}
	for _, a := range conds {
		for _, b := range conds {
			for _, c := range conds {
				h := hold(t, program(t, a+" "+b+" "+c, a+" "+c, "b(z: ?n) not a(x: ?n)"))
				if h == nil {
					s["not well-formed"]++
					continue
				}
				s["well-formed"]++
				h.chance(r, 20, s, func() api.Fact {
					f := api.Fact{ID: r.Intn(8) + 1, T: r.Intn(2), S: values("0 0")}
					for i := range f.S {
						f.S[i].N = int64(r.Intn(2))
					}
					f.S = f.S[f.T:]
					return f
				})
				h.leave(r)
				if t.Failed() {
					t.Fatal(a, b, c)
				}
			}
		}
	}
	s.hold(t, map[string]int{"well-formed": 1063, "not well-formed": 268, "Add both": 300, "Remove both": 100, "Add gone 3": 100, "Remove new 3": 50})
}

// P1: facts of any kind, acts of any kind.
func TestAnything(t *testing.T) {
	r := rand.New(rand.NewSource(3))
	s := seen{}
	for range 600 {
		h := hold(t, program(t, rules(r)...))
		h.chance(r, 12, s, func() api.Fact {
			f := anything[api.Fact](r)
			if r.Intn(2) == 0 {
				f.ID = r.Intn(5)
			}
			return f
		})
		for range 10 {
			h.holdVars(anything[api.Act](r))
		}
		h.leave(r)
		if t.Failed() {
			t.FailNow()
		}
	}
	s.hold(t, map[string]int{"Add 0": 1500, "Add 2": 1500, "Add 6": 600, "Add both": 4, "Add gone 1": 20, "Add new 1": 60, "Add new 2": 10, "Remove gone 1": 15, "Remove new 1": 2})
}

// P1, P25.1: any programs, of which none is well-formed that is not empty.
func TestAnyProgram(t *testing.T) {
	r := rand.New(rand.NewSource(4))
	refused := 0
	for range 5000 {
		if hold(t, anything[api.Program](r)) == nil {
			refused++
		}
		if t.Failed() {
			t.FailNow()
		}
	}
	if refused < 4000 {
		t.Error(refused)
	}
}

// P1, P25.1: each part of a program, and of a fact, changed alone.
func TestEachPart(t *testing.T) {
	r := rand.New(rand.NewSource(5))
	made, refused := 0, 0
	ask := func(p api.Program, f api.Fact) {
		h := hold(t, p)
		if h == nil {
			refused++
			return
		}
		made++
		h.add(api.Fact{ID: 3, T: 0, S: values("1 2")})
		h.add(f)
		h.add(api.Fact{ID: 1, T: 1, S: values("2")})
		h.remove(3)
		h.add(api.Fact{ID: 3, T: 0, S: values("3 1")})
		h.leave(r)
		if t.Failed() {
			t.FailNow()
		}
	}
	p := program(t, "p: a(x: ?n, y: > ?n) not a(x: ?n, y: 1) test ?n < 9", "p: a(x: ?n, y: > ?n) exists b(z: 2)", "not (a(x: ?m) b(z: > ?m)) b(z: ?n)")
	f := api.Fact{ID: 2, T: 0, S: values("1 3")}
	ask(p, f)
	for i, v := range partsOf(&p) {
		for k := range changes(v) {
			c := copyOf(p)
			changes(partsOf(&c)[i])[k]()
			ask(c, f)
		}
	}
	if made < 200 || refused < 200 {
		t.Error(made, refused)
	}
	for i, v := range partsOf(&f) {
		for k := range changes(v) {
			c := copyOf(f)
			changes(partsOf(&c)[i])[k]()
			ask(p, c)
		}
	}
}
