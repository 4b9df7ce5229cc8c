package alpha

import (
	"fmt"
	"math"
	"math/rand"
	"reflect"
	"slices"
	"strconv"
	"strings"
	"testing"

	"witan/api"
	"witan/passes"
	"witan/plan"
	"witan/rule"
	"witan/unary"
)

// held is a Net, and all that its answers hang on: the plan, and the facts that
// are there, in the order in which they came.
type held struct {
	t     *testing.T
	net   *Net
	plan  api.Plan
	there []api.Fact
}

// hold makes a Net, and writes over the plan that was handed in.
func hold(t *testing.T, p api.Plan) *held {
	t.Helper()
	h := &held{t: t, plan: copyOf(p)}
	p = room(p)
	before := whole(p)
	h.net = New(p)
	if after := whole(p); after != before {
		t.Errorf("the plan was %s, and is %s", short(before), short(after))
	}
	spoil(reflect.ValueOf(p))
	h.all()
	return h
}

// passes is what the chapter's words say.
func (h *held) passes(i int, f api.Fact) bool {
	n := h.plan.Alphas[i]
	switch {
	case n.Parent == -1:
		return n.T == f.T
	case n.Parent < 0, n.Parent >= i, n.Slot < 0, n.Slot >= len(f.S):
		return false
	}
	return h.passes(n.Parent, f) && unary.Pass(n.Test, f.S[n.Slot], nil)
}

// passed tells the nodes that a fact passes.
func (h *held) passed(f api.Fact) []int {
	var l []int
	for i := range h.plan.Alphas {
		if h.passes(i, f) {
			l = append(l, i)
		}
	}
	return l
}

func (h *held) find(id int) int {
	return slices.IndexFunc(h.there, func(f api.Fact) bool { return f.ID == id })
}

// told holds an answer against what was wanted, writes over it, and asks all.
func (h *held) told(call string, l, want []int, e, wantE api.Errno) {
	h.t.Helper()
	if !slices.Equal(l, want) || e != wantE {
		h.t.Errorf("%s: %v, %v; not %v, %v; of %s", call, l, e, want, wantE, short(whole(h.plan.Alphas)))
	}
	spoil(reflect.ValueOf(l))
	h.all()
}

// add hands a fact in, and writes over it behind the call.
func (h *held) add(f api.Fact) ([]int, api.Errno) {
	h.t.Helper()
	in := room(f)
	before := whole(in)
	l, e := h.net.Add(in)
	if after := whole(in); after != before {
		h.t.Errorf("the fact was %s, and is %s", short(before), short(after))
	}
	if !areApart(slices.Concat(spans(in), spans(l))) {
		h.t.Error("memory is shared")
	}
	spoil(reflect.ValueOf(in))
	answer := slices.Clone(l)
	if h.find(f.ID) >= 0 {
		h.told("Add "+short(whole(f)), l, nil, e, api.ErrTwice)
		return answer, e
	}
	h.there = append(h.there, copyOf(f))
	h.told("Add "+short(whole(f)), l, h.passed(f), e, api.OK)
	return answer, e
}

// drop lets a fact go.
func (h *held) drop(id int) ([]int, api.Errno) {
	h.t.Helper()
	l, e := h.net.Drop(id)
	answer := slices.Clone(l)
	call := "Drop " + strconv.Itoa(id)
	if i := h.find(id); i < 0 {
		h.told(call, l, nil, e, api.ErrNone)
	} else {
		f := h.there[i]
		h.there = slices.Delete(h.there, i, i+1)
		h.told(call, l, h.passed(f), e, api.OK)
	}
	return answer, e
}

// all asks Facts and Sizes of all nodes, and of numbers of none, and writes over
// what they tell.
func (h *held) all() {
	h.t.Helper()
	inOrder := slices.SortedFunc(slices.Values(h.there), func(a, b api.Fact) int {
		if a.ID < b.ID {
			return -1
		}
		return 1
	})
	var sizes []int
	for i := range h.plan.Alphas {
		var want []api.Fact
		for _, f := range inOrder {
			if h.passes(i, f) {
				want = append(want, f)
			}
		}
		sizes = append(sizes, len(want))
		got := h.net.Facts(i)
		if plain(got) != plain(want) {
			h.t.Errorf("Facts %d: %s, not %s, of %s", i, short(whole(got)), short(whole(want)), short(whole(h.plan.Alphas)))
		}
		if !areApart(spans(got)) {
			h.t.Error("memory is shared")
		}
		spoil(reflect.ValueOf(got))
	}
	for _, i := range []int{math.MinInt, -1 << 32, -2, -1, len(sizes), len(sizes) + 1, 1 << 32, math.MaxInt} {
		if l := h.net.Facts(i); len(l) > 0 {
			h.t.Errorf("Facts %d: %s, of %d nodes", i, short(whole(l)), len(sizes))
		}
	}
	got := h.net.Sizes()
	if !slices.Equal(got, sizes) {
		h.t.Errorf("Sizes: %v, not %v, of %s", got, sizes, short(whole(h.plan.Alphas)))
	}
	spoil(reflect.ValueOf(got))
}

// plain writes facts, an empty list like one that is not there.
func plain(l []api.Fact) string { return whole(copyOf(l)) }

// values are of all kinds, those that may not be among them.
func values() []api.Value {
	return []api.Value{
		{}, num(0), num(1), num(2), num(3), num(math.MinInt64), num(math.MaxInt64), {Kind: api.Dec, N: 10000}, {Kind: api.Dec, N: 15000}, {Kind: api.Str, S: "u"}, {Kind: api.Str}, {Kind: api.Bool, N: 1}, {Kind: api.Bool}, {Kind: api.Sym, S: "k"},
		{Kind: api.Int, N: 1, S: "u"}, {Kind: api.Null, N: 1}, {Kind: api.Bool, N: 2}, {Kind: api.Str, S: "\xff"}, {Kind: api.Sym, S: "No name"}, {Kind: 6}, {Kind: 255, N: 1},
	}
}

// tests are texts of tests, those that name variables among them.
func tests() []string {
	return []string{
		"1", "2", "> 1", ">= 1", "< 2", "<= 1", "= 1", "null", "-", "[1 .. 2]", "(1 .. 2]", "[1 .. 2)", "(1 .. 3)", "not(1)", "not(not(1))", "not(-)", "not(null)", "1, 2", "not(1, 2)", "not(1), 1", "null, 1", "1.5", "> 1.0", `"u"`, `> "a"`, "true", "not(true)", "#k",
		"6 / ?", "6 / ? > 1", "6 / (? - 1) = 6", "= ? + 1", "> ? - 1", "? = 1", "1 / 0", "?n", "?n + 1", "> ?n", "?n, 1", "not(?n)",
	}
}

// read tells tests of a text.
func read(t *testing.T, s string) api.Tests {
	t.Helper()
	l, at, e := unary.Read(s)
	if e != api.OK {
		t.Fatal(s, at, e)
	}
	return l
}

// chance lets facts come and go, of few IDs, so that many are there already.
func (h *held) chance(r *rand.Rand, calls int, one func() api.Fact) (came, twice, went, none int) {
	for range calls {
		f := one()
		if r.Intn(3) > 0 {
			if _, e := h.add(f); e == api.OK {
				came++
			} else {
				twice++
			}
		} else if _, e := h.drop(f.ID); e == api.OK {
			went++
		} else {
			none++
		}
		if h.t.Failed() {
			h.t.FailNow()
		}
	}
	return
}

// P20.1, P20.2: plans of nodes by chance, whose Parents may be anything, and facts
// by chance.
func TestPlansByChance(t *testing.T) {
	r := rand.New(rand.NewSource(1))
	var all []api.Tests
	for _, s := range tests() {
		all = append(all, read(t, s))
	}
	vs := values()
	var came, twice, went, none int
	passed := map[int]int{}
	for range 2500 {
		var p api.Plan
		for i := range r.Intn(9) {
			n := api.AlphaNode{Parent: -1, T: r.Intn(3) - 1, Slot: -1}
			if i > 0 && r.Intn(4) > 0 {
				n = api.AlphaNode{Parent: r.Intn(i), T: r.Intn(3) - 1, Slot: r.Intn(2), Test: all[r.Intn(len(all))]}
			}
			switch r.Intn(25) {
			case 0:
				n.Parent = []int{-1 << 63, -2, i, i + 1, 1 << 40}[r.Intn(5)]
			case 1:
				n.Slot = []int{-1 << 63, -1, 2, 1 << 40}[r.Intn(4)]
			}
			p.Alphas = append(p.Alphas, n)
		}
		h := hold(t, p)
		a, b, c, d := h.chance(r, 20, func() api.Fact {
			f := api.Fact{ID: r.Intn(7) - 2, T: r.Intn(3) - 1}
			for range r.Intn(4) {
				f.S = append(f.S, vs[r.Intn(5)+r.Intn(2)*r.Intn(len(vs)-4)])
			}
			passed[len(h.passed(f))]++
			return f
		})
		came, twice, went, none = came+a, twice+b, went+c, none+d
	}
	if came < 10000 || twice < 10000 || went < 5000 || none < 5000 || passed[0] < 10000 || passed[1] < 10000 || passed[3] < 500 || passed[4] < 75 {
		t.Errorf("%d came, %d twice, %d went, %d none, passed %v", came, twice, went, none, passed)
	}
}

// P1: any plans, and any facts.
func TestAnyPlans(t *testing.T) {
	r := rand.New(rand.NewSource(2))
	passed := 0
	for range 2500 {
		h := hold(t, anything[api.Plan](r))
		h.chance(r, 6, func() api.Fact {
			f := anything[api.Fact](r)
			passed += len(h.passed(f))
			return f
		})
	}
	if passed < 400 {
		t.Errorf("only %d were passed", passed)
	}
}

// program writes a program by chance, whose patterns begin alike.
func program(r *rand.Rand) string {
	s := "template a x:int y:int\ntemplate b x:int z:int y:int\n"
	one := func(l ...string) string { return l[r.Intn(len(l))] }
	for i := range 1 + r.Intn(5) {
		s += "rule r" + strconv.Itoa(i) + " when"
		for range 1 + r.Intn(3) {
			var slots []string
			for _, slot := range [][]string{{"x", "y"}, {"y", "x"}, {"x"}, {"y"}, {}}[r.Intn(5)] {
				slots = append(slots, slot+": "+one("1", "1", "2", "> 1", "> 1", "not(1)", "[1 .. 2]", "?n", "-"))
			}
			s += one(" ", " ", " not ") + one("a", "b") + "(" + strings.Join(slots, ", ") + ")"
		}
		s += " then halt end\n"
	}
	return s
}

// P20.1, P20.2: a pattern's alpha memory has the facts that pass it (layer 18),
// when of its slots' tests those alone are left that are of the fact alone.
func TestMemoriesOfPatterns(t *testing.T) {
	r := rand.New(rand.NewSource(3))
	had := map[bool]int{}
	for range 300 {
		p, at, e := rule.Parse(program(r))
		if e != api.OK {
			t.Fatal(at, e)
		}
		x, e := plan.Of(p)
		if e != api.OK {
			continue
		}
		h := hold(t, x)
		for id := range 25 {
			f := api.Fact{ID: id, T: r.Intn(2)}
			for range 2 + f.T {
				f.S = append(f.S, num(int64(r.Intn(4))))
			}
			if got, e := h.net.Add(f); e != api.OK || !slices.IsSorted(got) {
				t.Error(got, e)
			}
			h.there = append(h.there, f)
		}
		h.all()
		for _, n := range x.Nodes {
			for k, pattern := range n.Cond.Patterns {
				pattern.Slots = slices.DeleteFunc(copyOf(pattern.Slots), func(s api.SlotTest) bool { return !passes.Alone(s.Test) })
				in := h.net.Facts(n.Alphas[k])
				for _, f := range h.there {
					_, want := passes.Pass(x.Templates, pattern, f, nil)
					if got := slices.ContainsFunc(in, func(g api.Fact) bool { return g.ID == f.ID }); got != want {
						t.Errorf("%t, of %s and %s", got, short(whole(f)), short(whole(pattern)))
					}
					had[want]++
				}
			}
		}
	}
	if had[true] < 3000 || had[false] < 3000 {
		t.Error(had)
	}
}

// P20.1: each part of a plan and of a fact changed alone.
func TestEachPart(t *testing.T) {
	p := api.Plan{Alphas: []api.AlphaNode{
		{Parent: -1, T: 1, Slot: -1}, {Parent: 0, T: 1, Slot: 1, Test: read(t, "[1 .. 2)")}, {Parent: 1, T: 1, Slot: 0, Test: read(t, `not("v"), null`)}, {Parent: 0, T: 1, Slot: 0, Test: read(t, "null")},
	}}
	f := api.Fact{ID: 3, T: 1, S: []api.Value{{Kind: api.Str, S: "u"}, num(1)}}
	passed := map[string]int{}
	ask := func(p api.Plan, f api.Fact) {
		h := hold(t, p)
		h.add(api.Fact{ID: 2, T: 1, S: []api.Value{{}, num(1)}})
		l, _ := h.add(f)
		h.add(api.Fact{ID: 3, T: 1, S: []api.Value{{}, num(2)}})
		h.drop(3)
		h.drop(f.ID)
		h.drop(2)
		passed[fmt.Sprint(l)]++
	}
	ask(p, f)
	for i, v := range partsOf(&p) {
		for k := range changes(v) {
			c := copyOf(p)
			changes(partsOf(&c)[i])[k]()
			ask(c, f)
		}
	}
	for i, v := range partsOf(&f) {
		for k := range changes(v) {
			c := copyOf(f)
			changes(partsOf(&c)[i])[k]()
			ask(p, c)
		}
	}
	for _, l := range []string{"[]", "[0]", "[0 1]", "[0 1 2]", "[0 1 2 3]"} {
		if passed[l] == 0 {
			t.Errorf("none passed %s: %v", l, passed)
		}
	}
}
