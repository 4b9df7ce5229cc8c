package plan

import (
	"fmt"
	"math/rand"
	"reflect"
	"strconv"
	"strings"
	"testing"

	"witan/api"
	"witan/check"
	"witan/rule"
)

// plain writes all that counts of a part: neither places nor facts' names.
func plain[T any](v T) string {
	c := copyOf(v)
	for _, x := range partsOf(&c) {
		switch x.Type() {
		case reflect.TypeFor[api.Place]():
			x.SetZero()
		case reflect.TypeFor[api.Pattern]():
			x.FieldByName("Name").SetString("")
		}
	}
	return whole(c)
}

// names tells whether a variable stands anywhere in tests.
func names(l api.Tests) bool {
	for _, t := range l {
		for _, n := range append(copyOf(t.A), t.B...) {
			if n.Op == api.OpVar {
				return true
			}
		}
	}
	return false
}

// model is the plan of a program that is well-formed: each node, each alpha node
// is known by all that stands ahead of it, written in one text.
func model(p api.Program) api.Plan {
	out := api.Plan{Templates: p.Templates, Nodes: []api.PlanNode{{Parent: -1}}}
	nodes, alphas := map[string]int{"": 0}, map[string]int{}
	alpha := func(parent, t, slot int, way string, test api.Tests) int {
		if n, ok := alphas[way]; ok {
			return n
		}
		alphas[way] = len(out.Alphas)
		out.Alphas = append(out.Alphas, api.AlphaNode{Parent: parent, T: t, Slot: slot, Test: test})
		return alphas[way]
	}
	pattern := func(x api.Pattern) int {
		t := 0
		for p.Templates[t].Name != x.T {
			t++
		}
		way := x.T
		n := alpha(-1, t, -1, way, nil)
		for _, s := range x.Slots {
			slot := 0
			for p.Templates[t].Slots[slot].Name != s.Slot {
				slot++
			}
			if !names(s.Test) {
				way += " / " + s.Slot + plain(s.Test)
				n = alpha(n, t, slot, way, s.Test)
			}
		}
		return n
	}
	for _, r := range p.Rules {
		way := ""
		for _, c := range r.Conds {
			ahead := nodes[way]
			way += " / " + plain(c)
			if _, ok := nodes[way]; !ok {
				x := api.PlanNode{Parent: ahead, Cond: c}
				for _, p := range c.Patterns {
					x.Alphas = append(x.Alphas, pattern(p))
				}
				nodes[way] = len(out.Nodes)
				out.Nodes = append(out.Nodes, x)
			}
		}
		out.Ends = append(out.Ends, nodes[way])
	}
	return out
}

// hold asks for a program's plan, and holds it against the model; what is handed
// in stays.
func hold(t *testing.T, p api.Program) api.Plan {
	t.Helper()
	_, e := check.Check(p)
	p = room(p)
	before := whole(p)
	x, got := Of(p)
	if after := whole(p); after != before {
		t.Errorf("handed in was %s, and is %s", short(before), short(after))
	}
	if e != api.OK {
		if got != api.ErrForm || !reflect.DeepEqual(x, api.Plan{}) {
			t.Errorf("%v, %s, of what is not well-formed: %s", got, short(whole(x)), short(before))
		}
		return x
	}
	if got != api.OK {
		t.Errorf("%v of %s", got, short(before))
	} else if got, want := whole(copyOf(x)), whole(copyOf(model(p))); got != want {
		t.Errorf("%s, not %s, of %s", short(got), short(want), short(before))
	}
	holdBelow(t, x)
	return x
}

// holdBelow asks Below and Path of all nodes, and of numbers of none.
func holdBelow(t *testing.T, x api.Plan) {
	t.Helper()
	x = room(x)
	before := whole(x)
	asked := []int{-1 << 63, -1 << 40, -2, -1, len(x.Nodes), len(x.Nodes) + 1, len(x.Nodes) + 2, 1 << 40, 1<<63 - 1}
	for n := range x.Nodes {
		asked = append(asked, n)
	}
	for _, n := range asked {
		var below []int
		for i, y := range x.Nodes {
			if y.Parent == n {
				below = append(below, i)
			}
		}
		if got := Below(x, n); fmt.Sprint(got) != fmt.Sprint(below) {
			t.Errorf("Below %d: %v, not %v, of %s", n, got, below, short(before))
		}
		if got, want := Path(x, n), way(x, n); fmt.Sprint(got) != fmt.Sprint(want) {
			t.Errorf("Path %d: %v, not %v, of %s", n, got, want, short(before))
		}
	}
	if after := whole(x); after != before {
		t.Errorf("handed in was %s, and is %s", short(before), short(after))
	}
}

// way goes to the node ahead first.
func way(x api.Plan, n int) []int {
	if n <= 0 || n >= len(x.Nodes) {
		return nil
	}
	if x.Nodes[n].Parent >= n {
		return []int{n}
	}
	return append(way(x, x.Nodes[n].Parent), n)
}

// written writes a program by chance, many of whose rules begin alike.
func written(r *rand.Rand) string {
	one := func(l ...string) string { return l[r.Intn(len(l))] }
	var s strings.Builder
	s.WriteString("template a x:int y:int\ntemplate b x:int y:int z:str\n")
	pattern := func() string {
		var slots []string
		for _, slot := range []string{"x", "y", "x"}[r.Intn(2):][:r.Intn(3)] {
			slots = append(slots, slot+": "+one("1", "1", "2", "= 1", "( 1 )", "?n", "?m", "> ?n", "not(1)", "1, 2", "[1 .. 2]", "-", "= ?n + 1"))
		}
		return one("a", "a", "b") + one("(", " ( ") + strings.Join(slots, ", ") + ")"
	}
	cond := func() string {
		switch r.Intn(8) {
		case 0, 1, 2:
			return pattern()
		case 3:
			return "f: " + pattern()
		case 4:
			return one("not ", "exists ") + pattern()
		case 5:
			return "not (" + pattern() + one("", " ") + pattern() + ")"
		case 6:
			return "not (" + pattern() + ")"
		}
		return "test " + one("true", "1 = 1", "?n = 1", "false")
	}
	pool := []string{cond(), cond(), cond()}
	for i := range r.Intn(8) {
		s.WriteString("rule r" + strconv.Itoa(i) + " when")
		for range r.Intn(4) {
			s.WriteString(one("\n", "  ", " ") + one(append(pool, pool[0], pool[1], cond())...))
		}
		s.WriteString(" then halt end\n")
	}
	return s.String()
}

// P19.1, P19.2: programs by chance.
func TestProgramsByChance(t *testing.T) {
	r := rand.New(rand.NewSource(1))
	fit, not, shared, nodes := 0, 0, 0, 0
	for range 2500 {
		s := written(r)
		p, at, e := rule.Parse(s)
		if e != api.OK {
			t.Fatal(at, e, s)
		}
		x := hold(t, p)
		if len(x.Nodes) == 0 {
			not++
			continue
		}
		fit++
		conds := 1
		for _, r := range p.Rules {
			conds += len(r.Conds)
		}
		shared += conds - len(x.Nodes)
		nodes += len(x.Nodes)
		if t.Failed() {
			t.Fatal(s)
		}
	}
	if fit < 800 || not < 500 || shared < 600 || nodes < 3000 {
		t.Errorf("only %d well-formed, %d not, %d nodes shared, %d in all", fit, not, shared, nodes)
	}
}

// P1, P19.2: any plans.
func TestAnyPlans(t *testing.T) {
	r := rand.New(rand.NewSource(2))
	for range 1500 {
		holdBelow(t, anything[api.Plan](r))
	}
	for range 3000 {
		var x api.Plan
		for range r.Intn(9) {
			x.Nodes = append(x.Nodes, api.PlanNode{Parent: r.Intn(12) - 2})
		}
		holdBelow(t, x)
	}
}

// P1, P19.1: any programs.
func TestAnyPrograms(t *testing.T) {
	r := rand.New(rand.NewSource(3))
	for range 1500 {
		hold(t, anything[api.Program](r))
	}
}
