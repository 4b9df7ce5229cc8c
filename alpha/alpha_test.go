package alpha

import (
	"fmt"
	"math"
	"reflect"
	"slices"
	"testing"

	"witan/api"
	"witan/check"
	"witan/plan"
)

func num(n int64) api.Value { return api.Value{Kind: api.Int, N: n} }

func fact(id, t int, s ...api.Value) api.Fact { return api.Fact{ID: id, T: t, S: s} }

// of is a fact of whole numbers.
func of(id, t int, l ...int64) api.Fact {
	f := fact(id, t)
	for _, n := range l {
		f.S = append(f.S, num(n))
	}
	return f
}

// first is a template's first node.
func first(t int) api.AlphaNode { return api.AlphaNode{Parent: -1, T: t, Slot: -1} }

// below is a node with a test of a text.
func below(t *testing.T, parent, slot int, test string) api.AlphaNode {
	t.Helper()
	return api.AlphaNode{Parent: parent, Slot: slot, Test: read(t, test)}
}

func nodes(l ...api.AlphaNode) api.Plan { return api.Plan{Alphas: l} }

// planned is the plan of a rule with these conditions.
func planned(t *testing.T, conds string) api.Plan {
	t.Helper()
	p, at, e := check.Source("template a x:int y:int template b x:int y:int rule r when " + conds + " then halt end")
	if e != api.OK {
		t.Fatal(at, e, conds)
	}
	x, e := plan.Of(p)
	if e != api.OK {
		t.Fatal(e, conds)
	}
	return x
}

// adds asks for the nodes that a fact, which comes, passes.
func (h *held) adds(f api.Fact, want ...int) {
	h.t.Helper()
	if l, e := h.add(f); e != api.OK || !slices.Equal(l, want) {
		h.t.Errorf("Add %v: %v, %v; not %v", f, l, e, want)
	}
}

// twice asks for an Add that is refused.
func (h *held) twice(f api.Fact) {
	h.t.Helper()
	if l, e := h.add(f); e != api.ErrTwice || len(l) > 0 {
		h.t.Errorf("Add %v: %v, %v", f, l, e)
	}
}

// drops asks for the nodes that a fact, which goes, passed.
func (h *held) drops(id int, want ...int) {
	h.t.Helper()
	if l, e := h.drop(id); e != api.OK || !slices.Equal(l, want) {
		h.t.Errorf("Drop %d: %v, %v; not %v", id, l, e, want)
	}
}

// none asks for a Drop of what is not there.
func (h *held) none(ids ...int) {
	h.t.Helper()
	for _, id := range ids {
		if l, e := h.drop(id); e != api.ErrNone || len(l) > 0 {
			h.t.Errorf("Drop %d: %v, %v", id, l, e)
		}
	}
}

func (h *held) sizes(want ...int) {
	h.t.Helper()
	if l := h.net.Sizes(); !slices.Equal(l, want) {
		h.t.Errorf("Sizes: %v, not %v", l, want)
	}
}

// facts asks for the IDs of a node's facts.
func (h *held) facts(node int, want ...int) {
	h.t.Helper()
	var ids []int
	for _, f := range h.net.Facts(node) {
		ids = append(ids, f.ID)
	}
	if !slices.Equal(ids, want) {
		h.t.Errorf("Facts %d: %v, not %v", node, ids, want)
	}
}

// The chapter's examples.
func TestExamples(t *testing.T) {
	h := hold(t, planned(t, "a(x: 1)"))
	h.sizes(0, 0)
	h.adds(of(1, 0, 1, 5), 0, 1)
	h.adds(of(2, 0, 2, 5), 0)
	h.sizes(2, 1)
	h.drops(1, 0, 1)
	h.sizes(1, 0)
	h.facts(0, 2)
	h.facts(1)
	h.drops(2, 0)
	h.sizes(0, 0)
}

// P20.1: an ID that is there is refused, whatever the fact is, and stays what it was.
func TestAddTwice(t *testing.T) {
	for _, there := range []api.Fact{of(5, 0, 1, 5), of(5, 0, 2, 5), of(5, 1, 1, 5), of(5, 7, 1, 5), of(5, -1), fact(5, 0)} {
		h := hold(t, planned(t, "a(x: 1) b(y: 5) a(x: > 1)"))
		h.add(of(4, 0, 1, 5))
		h.add(there)
		before := fmt.Sprint(h.net.Sizes())
		for _, f := range []api.Fact{there, of(5, 0, 1, 5), of(5, 0, 2, 5), of(5, 0, 9, 9), of(5, 1, 1, 5), of(5, 1, 1, 6), of(5, 2), of(5, -1), fact(5, 0)} {
			h.twice(f)
		}
		if after := fmt.Sprint(h.net.Sizes()); after != before {
			t.Errorf("Sizes: %s, not %s", after, before)
		}
		// One that was there and went may come again, also as another fact.
		h.drop(5)
		h.adds(of(5, 1, 1, 5), 2, 3)
		h.twice(there)
		h.drops(5, 2, 3)
		h.adds(of(5, 0, 3, 3), 0, 4)
		h.drops(5, 0, 4)
		h.adds(of(5, 9))
		h.twice(of(5, 0, 1, 5))
		h.drops(5)
		h.drops(4, 0, 1)
		h.sizes(0, 0, 0, 0, 0)
	}
}

// P20.1: what is not there, was never there, went already.
func TestDropOfNone(t *testing.T) {
	h := hold(t, planned(t, "a(x: 1) b()"))
	never := []int{math.MinInt, -1 << 32, -1, 0, 1, 2, 7, 1 << 32, 1<<32 + 3, math.MaxInt}
	h.none(never...)
	h.adds(of(3, 0, 1, 1), 0, 1)
	h.adds(of(4, 8))
	h.none(never...)
	h.drops(3, 0, 1)
	h.none(3)
	h.drops(4)
	h.none(3, 4, 3, 4)
	h.adds(of(3, 1, 1, 1), 2)
	h.none(4)
	h.drops(3, 2)
	h.none(never...)
	h.sizes(0, 0, 0)
}

// P1, P20.1: any IDs.
func TestIDs(t *testing.T) {
	ids := []int{0, -1, 1, math.MaxInt, math.MinInt, 1 << 32, -1 << 32, 200, 201, 1<<32 + 1}
	h := hold(t, nodes(first(0)))
	for i, id := range ids {
		h.adds(fact(id, 0), 0)
		h.none(ids[i+1:]...)
		h.twice(fact(id, 1))
	}
	h.facts(0, math.MinInt, -1<<32, -1, 0, 1, 200, 201, 1<<32, 1<<32+1, math.MaxInt)
	for _, id := range ids {
		h.drops(id, 0)
	}
	h.none(ids...)
}

// P20.1: facts that pass no node, first ones alone, all on a way, some of those
// below one node.
func TestAdd(t *testing.T) {
	// 0 a; 1 x: > 1; 2 y: 5 below 1; 3 b; 4 y: 5; 5 x: > 1 below 4; 6 x: > 2 of a; 7 y: 5 below 0.
	p := planned(t, "a(x: > 1, y: 5) b(y: 5, x: > 1) a(x: > 2) a(y: 5)")
	if len(p.Alphas) != 8 {
		t.Fatal(len(p.Alphas))
	}
	beside := hold(t, p)
	for i, c := range []struct {
		f    api.Fact
		want []int
	}{
		{of(0, 2, 2, 5), nil}, {of(0, -1, 2, 5), nil}, {of(0, math.MaxInt, 2, 5), nil}, {of(0, math.MinInt, 2, 5), nil}, {of(0, 1<<32, 2, 5), nil}, {of(0, 7), nil},
		{of(0, 0, 1, 1), []int{0}}, {of(0, 0), []int{0}}, {of(0, 1, 2, 4), []int{3}}, {of(0, 1), []int{3}},
		{of(0, 0, 2, 5), []int{0, 1, 2, 7}}, {of(0, 0, 3, 5), []int{0, 1, 2, 6, 7}}, {of(0, 1, 2, 5), []int{3, 4, 5}},
		{of(0, 0, 1, 5), []int{0, 7}}, {of(0, 0, 2, 4), []int{0, 1}}, {of(0, 0, 3, 4), []int{0, 1, 6}}, {of(0, 1, 1, 5), []int{3, 4}},
		// Too few values, and too many.
		{of(0, 0, 1), []int{0}}, {of(0, 0, 2), []int{0, 1}}, {of(0, 0, 3), []int{0, 1, 6}}, {of(0, 1, 2), []int{3}}, {of(0, 0, 2, 5, 1), []int{0, 1, 2, 7}}, {of(0, 0, slices.Repeat([]int64{5}, 1000)...), []int{0, 1, 2, 6, 7}},
	} {
		c.f.ID = i
		// Alone, and beside all those ahead of it.
		h := hold(t, p)
		h.adds(c.f, c.want...)
		h.drops(i, c.want...)
		beside.adds(c.f, c.want...)
	}
}

// P20.1: a node that is passed itself, whose Parent is not.
func TestParentIsNotPassed(t *testing.T) {
	h := hold(t, nodes(first(0), below(t, 0, 0, "1"), below(t, 1, 1, "-"), below(t, 2, 1, "-"), first(1), below(t, 4, 1, "-"), below(t, 1, 0, "-")))
	h.adds(of(1, 0, 2, 2), 0)
	h.adds(of(2, 1, 1, 1), 4, 5)
	h.adds(of(3, 0, 1, 1), 0, 1, 2, 3, 6)
	h.adds(of(4, 2, 1, 1))
	h.facts(2, 3)
	h.facts(3, 3)
}

// P20.1: of a node that is no first one, T is not asked; of a first one, neither
// Slot nor Test.
func TestWhatIsNotAsked(t *testing.T) {
	other, one := below(t, 0, 0, "1"), below(t, -1, 0, "2")
	other.T, one.T = 9, 3
	noSlot := first(3)
	noSlot.Slot = 1 << 40
	h := hold(t, nodes(first(3), other, one, noSlot, api.AlphaNode{Parent: -1, T: 3, Slot: 0, Test: api.Tests{{Op: 255}}}))
	h.adds(of(1, 3, 1), 0, 1, 2, 3, 4)
	h.adds(of(2, 3), 0, 2, 3, 4)
	h.adds(of(3, 9, 1))
	h.adds(of(4, 0, 2))
}

// P20.1: a fact without a value at a node's Slot does not pass it, whatever the test is.
func TestSlots(t *testing.T) {
	for _, slot := range []int{math.MinInt, -1 << 32, -2, -1, 0, 1, 2, 3, 1 << 32, math.MaxInt} {
		for _, test := range []string{"-", "null", "not(1)", "1, -", "= ?", "not(not(null))"} {
			h := hold(t, nodes(first(0), below(t, 0, slot, test), below(t, 1, 0, "-")))
			for n := range 4 {
				want := []int{0}
				if 0 <= slot && slot < n && test != "not(1)" && test != "= ?" {
					want = []int{0, 1, 2}
				}
				h.adds(fact(n, 0, make([]api.Value, n)...), want...)
			}
		}
	}
}

// P20.1: values that a test is an error of, and Null; a test passes where its
// answer is true alone.
func TestValues(t *testing.T) {
	text, truth := api.Value{Kind: api.Str, S: "u"}, api.Value{Kind: api.Bool, N: 1}
	for _, c := range []struct {
		test string
		pass []api.Value
		not  []api.Value
	}{
		{"> 1", []api.Value{num(2), {Kind: api.Dec, N: 10001}}, []api.Value{num(1), {}, text, truth, {Kind: 6}}},
		{"not(> 1)", []api.Value{num(1)}, []api.Value{num(2), {}, text, truth}},
		{"null", []api.Value{{}}, []api.Value{num(0), text, {Kind: api.Str}}},
		{"-", append(values(), text), nil},
		{"not(-)", nil, values()},
		{"6 / ? > 1", nil, []api.Value{num(0), {}, text}},
		{"not(null)", []api.Value{num(0), text}, []api.Value{{}}},
		{"6 / ?", nil, []api.Value{num(0), num(1), {}, text}},
		{"6 / (? - 1)", []api.Value{num(3)}, []api.Value{num(1), num(2), {}, text}},
		{"1, 6 / (? - 1)", []api.Value{num(3), {Kind: api.Dec, N: 30000}}, []api.Value{num(2), text}},
		{`"u"`, []api.Value{text}, []api.Value{num(1), {}, {Kind: api.Sym, S: "u"}, {Kind: api.Str, S: "v"}}},
		{"true", []api.Value{truth}, []api.Value{{Kind: api.Bool}, {}, num(1)}},
		{"9223372036854775807 + ?", nil, []api.Value{num(1), num(0), {}}},
		// No variable is bound.
		{"?n", nil, values()}, {"> ?n", nil, values()},
	} {
		h := hold(t, nodes(first(0), below(t, 0, 0, c.test)))
		id := 0
		for _, v := range c.pass {
			id++
			h.adds(fact(id, 0, v), 0, 1)
		}
		for _, v := range c.not {
			id++
			h.adds(fact(id, 0, v), 0)
		}
		h.sizes(id, len(c.pass))
	}
}

// P1, P20.1: tests that are none pass nothing, and the nodes below them neither.
func TestTestsThatAreNone(t *testing.T) {
	lit := api.Expr{{Op: api.OpLit, V: num(1)}}
	for _, test := range []api.Tests{
		nil, {}, {{Op: 255}}, {{Op: api.TestEq}}, {{Op: api.TestGt}}, {{Op: api.TestIn, A: lit}}, {{Op: api.TestEq, A: api.Expr{{Op: 255}}}}, {{Op: api.TestEq, A: api.Expr{{Op: api.OpNeg, Kids: []int{0}}}}},
		{{Op: api.TestEq, A: api.Expr{{Op: api.OpAdd, Kids: []int{-1, 1 << 40}}}}}, {{Op: api.TestNot, Kids: []int{0}}}, {{Op: api.TestNot, Kids: []int{-1 << 63}}}, {{Op: api.TestList, Kids: []int{5, -5, 0}}}, {{Op: api.TestAny}, {Op: 200}},
	} {
		h := hold(t, nodes(first(0), api.AlphaNode{Parent: 0, Test: test}, below(t, 1, 0, "-"), below(t, 0, 0, "-")))
		h.adds(of(1, 0, 1), 0, 3)
		h.adds(fact(2, 0, api.Value{}), 0, 3)
		h.drops(1, 0, 3)
	}
}

// P20.1: Parents that are not ahead, below -1, and above.
func TestParents(t *testing.T) {
	for _, parent := range []int{math.MinInt, -1 << 32, -3, -2, 1, 2, 3, 4, 1 << 32, math.MaxInt} {
		h := hold(t, nodes(first(0), below(t, parent, 0, "-"), first(0), below(t, 1, 0, "-"), below(t, 0, 0, "-")))
		h.adds(of(1, 0, 1), 0, 2, 4)
		h.adds(of(2, 1, 1))
		h.drops(1, 0, 2, 4)
	}
	// Those that go round, and one that has its Parent behind it.
	h := hold(t, nodes(below(t, 0, 0, "-"), below(t, 2, 0, "-"), below(t, 1, 0, "-"), below(t, 4, 0, "-"), first(0), below(t, 4, 0, "-")))
	h.adds(of(1, 0, 1), 4, 5)
	h.sizes(0, 0, 0, 0, 1, 1)
	h.drops(1, 4, 5)
	// First ones behind others, and the same one again.
	h = hold(t, nodes(first(1), first(0), below(t, 1, 0, "1"), first(1), below(t, 0, 0, "1"), first(0), below(t, 1, 0, "1")))
	h.adds(of(1, 0, 1), 1, 2, 5, 6)
	h.adds(of(2, 1, 1), 0, 3, 4)
	h.drops(1, 1, 2, 5, 6)
	h.drops(2, 0, 3, 4)
}

// P20.1: the plan's templates are not asked, nor its nodes.
func TestAlphasAlone(t *testing.T) {
	p := nodes(first(-5), first(1<<40), below(t, 0, 0, "1"))
	p.Templates, p.Nodes, p.Ends = []api.Template{{Name: "a"}}, []api.PlanNode{{Parent: 9, Alphas: []int{7}}}, []int{-4}
	h := hold(t, p)
	h.adds(of(1, -5, 1), 0, 2)
	h.adds(of(2, 1<<40, 1), 1)
	h.adds(of(3, 0, 1))
}

// P20.2: facts by rising IDs, whatever order they came in.
func TestFactsInOrder(t *testing.T) {
	for _, order := range [][]int{{1, 2, 3, 10, 20}, {20, 10, 3, 2, 1}, {10, 1, 20, 3, 2}, {3, 20, 1, 2, 10}} {
		h := hold(t, planned(t, "a(x: 1)"))
		for _, id := range order {
			h.add(of(id, 0, int64(id%2), 7))
		}
		h.facts(0, 1, 2, 3, 10, 20)
		h.facts(1, 1, 3)
		for _, node := range []int{math.MinInt, -2, -1, 2, 3, math.MaxInt} {
			h.facts(node)
		}
		h.drops(3, 0, 1)
		h.drops(10, 0)
		h.facts(0, 1, 2, 20)
		h.facts(1, 1)
		h.add(of(10, 0, 1, 7))
		h.facts(1, 1, 10)
		if l := h.net.Facts(1); !reflect.DeepEqual(l, []api.Fact{of(1, 0, 1, 7), of(10, 0, 1, 7)}) {
			t.Error(l)
		}
	}
}

// P20.2: many facts, of which each has its own values.
func TestManyFacts(t *testing.T) {
	n := New(planned(t, "a(x: > 499) b()"))
	for i := range 1000 {
		id := i * 7 % 1000
		if l, e := n.Add(of(id, 0, int64(id), 5)); e != api.OK || len(l) != 1+id/500 {
			t.Fatal(l, e)
		}
	}
	l := n.Facts(1)
	for i, f := range l {
		if !reflect.DeepEqual(f, of(500+i, 0, int64(500+i), 5)) {
			t.Error(f)
		}
	}
	if len(l) != 500 || !slices.Equal(n.Sizes(), []int{1000, 500, 0}) {
		t.Error(len(l), n.Sizes())
	}
	for id := range 1000 {
		if l, e := n.Drop(id); e != api.OK || len(l) != 1+id/500 {
			t.Fatal(l, e)
		}
	}
	if !slices.Equal(n.Sizes(), []int{0, 0, 0}) {
		t.Error(n.Sizes())
	}
}

// P20.2: a plan without alpha nodes has none to tell, and its facts are there yet.
func TestWithoutNodes(t *testing.T) {
	for _, p := range []api.Plan{{}, {Alphas: []api.AlphaNode{}}, planned(t, ""), planned(t, "test true")} {
		h := hold(t, p)
		if n := New(p); n == nil || len(n.Sizes()) != 0 || len(n.Facts(0)) != 0 {
			t.Errorf("%v", n)
		}
		h.adds(of(1, 0, 1, 1))
		h.twice(of(1, 0, 1, 1))
		h.twice(of(1, 1))
		h.drops(1)
		h.none(1)
		h.sizes()
	}
}

// What follows: what passes a node passes all ahead of it on its way.
func TestLongWay(t *testing.T) {
	p := nodes(first(0))
	const n = 1 << 14
	for i := range n {
		p.Alphas = append(p.Alphas, below(t, i, i%2, "> 0"))
	}
	net := New(p)
	if l, e := net.Add(of(1, 0, 1, 1)); e != api.OK || len(l) != n+1 || !slices.IsSorted(l) {
		t.Error(len(l), e)
	}
	if l, e := net.Add(of(2, 0, 1, 0)); e != api.OK || !slices.Equal(l, []int{0, 1}) {
		t.Error(len(l), e)
	}
	if l := net.Sizes(); l[0] != 2 || l[1] != 2 || slices.Max(l[2:]) != 1 || slices.Min(l[2:]) != 1 {
		t.Error(l[:5])
	}
	if l, e := net.Drop(1); e != api.OK || len(l) != n+1 || !slices.IsSorted(l) {
		t.Error(len(l), e)
	}
}

// What follows: the same facts in another order make the same memories, and one
// that comes and goes leaves all as it was; behind the last Drop all is as at first.
func TestOtherOrders(t *testing.T) {
	p := planned(t, "a(x: > 1, y: 5) b(y: 5) a(x: 1) b(x: > 1, y: 6)")
	facts := []api.Fact{of(1, 0, 2, 5), of(2, 0, 1, 5), of(3, 1, 1, 5), of(4, 1, 2, 6), of(5, 9), of(6, 0, 2, 5)}
	told := func(n *Net) string {
		s := fmt.Sprint(n.Sizes())
		for i := range p.Alphas {
			s += fmt.Sprint(n.Facts(i))
		}
		return s
	}
	at, want := told(New(p)), ""
	for shift := range facts {
		h := hold(t, p)
		for i := range facts {
			h.add(facts[(i*5+shift)%len(facts)])
		}
		if want == "" {
			want = told(h.net)
		}
		if got := told(h.net); got != want {
			t.Errorf("%s, not %s", got, want)
		}
		for i, f := range facts {
			f.ID = []int{0, 7, -5}[i%3]
			h.add(f)
			h.drop(f.ID)
			if got := told(h.net); got != want {
				t.Errorf("%s, not %s", got, want)
			}
		}
		for i := range facts {
			h.drop(facts[(i*5+shift+2)%len(facts)].ID)
		}
		if got := told(h.net); got != at {
			t.Errorf("%s, not %s", got, at)
		}
	}
}

// P20.1: two Nets of one plan go their own ways.
func TestNetsAreApart(t *testing.T) {
	p := planned(t, "a(x: 1)")
	g, h := hold(t, p), hold(t, p)
	g.adds(of(1, 0, 1, 1), 0, 1)
	h.none(1)
	h.adds(of(1, 0, 2, 2), 0)
	g.drops(1, 0, 1)
	h.sizes(1, 0)
	h.twice(of(1, 0, 1, 1))
	h.facts(0, 1)
}

// P1: of all that is handed in nothing is kept, of all that is told nothing is
// shared, of one call or of several.
func TestMemory(t *testing.T) {
	p := room(planned(t, `a(x: [1 .. 2), y: not(5, 6)) b() a(y: 1)`))
	before := whole(p)
	n := New(p)
	f := room(of(1, 0, 1, 1))
	was := whole(f)
	added, e := n.Add(f)
	if e != api.OK || !slices.Equal(added, []int{0, 1, 2, 4}) {
		t.Fatal(added, e)
	}
	facts, again, sizes := n.Facts(1), n.Facts(1), n.Sizes()
	all := [][]span{spans(p), spans(f), spans(added), spans(facts), spans(again), spans(sizes), spans(n.Sizes()), spans(n.Facts(0)), spans(n.Facts(2))}
	if !areApart(slices.Concat(all...)) {
		t.Error("memory is shared")
	}
	for _, l := range []reflect.Value{reflect.ValueOf(facts), reflect.ValueOf(sizes), reflect.ValueOf(added)} {
		spoil(l)
	}
	if whole(p) != before || whole(f) != was || !reflect.DeepEqual(again, []api.Fact{of(1, 0, 1, 1)}) {
		t.Errorf("%s %s %v", short(whole(p)), whole(f), again)
	}
	spoil(reflect.ValueOf(p))
	spoil(reflect.ValueOf(f))
	for i, want := range []int{1, 1, 1, 0, 1} {
		if l := n.Facts(i); len(l) != want || want > 0 && !reflect.DeepEqual(l[0], of(1, 0, 1, 1)) {
			t.Errorf("%d: %v", i, l)
		}
	}
	if l, e := n.Add(of(2, 0, 1, 5)); e != api.OK || !slices.Equal(l, []int{0, 1}) {
		t.Error(l, e)
	}
	went, e := n.Drop(1)
	if e != api.OK || !slices.Equal(went, []int{0, 1, 2, 4}) || !slices.Equal(n.Sizes(), []int{1, 1, 0, 0, 0}) {
		t.Error(went, e, n.Sizes())
	}
	if !reflect.DeepEqual(again, []api.Fact{of(1, 0, 1, 1)}) {
		t.Errorf("what was told is %v", again)
	}
}

// P20.1, P20.2: of a Net that is not there, or was not made.
func TestNotThere(t *testing.T) {
	for _, n := range []*Net{nil, {}} {
		for _, f := range []api.Fact{{}, of(1, 0, 1), of(-1, 9)} {
			for range 2 {
				if l, e := n.Add(f); l != nil || e != api.ErrNil {
					t.Error(l, e)
				}
				if l, e := n.Drop(f.ID); l != nil || e != api.ErrNil {
					t.Error(l, e)
				}
			}
		}
		for _, i := range []int{math.MinInt, -1, 0, 1, math.MaxInt} {
			if l := n.Facts(i); l != nil {
				t.Error(l)
			}
		}
		if l := n.Sizes(); l != nil {
			t.Error(l)
		}
	}
}
