package passes

import (
	"math/rand"
	"slices"
	"strings"
	"testing"

	"witan/api"
	"witan/template"
	"witan/unary"
	"witan/value"
)

// answer is what a test tells.
type answer int

const (
	no answer = iota
	yes
	null
	wrong // an error
)

// of tells whether the comparison of two values is one of some: by equal, or by
// an order, in which truths and symbols are not.
func of(a, b api.Value, equal bool, may ...int) answer {
	c, ok := value.Compare(a, b)
	switch {
	case !equal && max(a.Kind, b.Kind) > api.Str:
		return wrong
	case a.Kind == api.Null || b.Kind == api.Null:
		return null
	case !ok:
		return wrong
	case slices.Contains(may, c):
		return yes
	}
	return no
}

// either tells, from the left, whether one is true: nothing behind an error, or
// a truth, is asked.
func either(a, b answer) answer {
	for _, ends := range []answer{a, b} {
		if ends == wrong || ends == yes {
			return ends
		}
	}
	return max(a, b)
}

func other(a answer) answer { return [...]answer{yes, no, null, wrong}[a] }

// known is a test, and what it tells of a value where ?n and ?m are bound so
// (nil: not). What is nil is told by the model itself: a variable alone.
type known struct {
	text  string
	tells func(self api.Value, n, m *api.Value) answer
}

// with asks of a variable; it is wrong to ask of one that is not bound.
func with(v *api.Value, asks func(v api.Value) answer) answer {
	if v == nil {
		return wrong
	}
	return asks(*v)
}

// knownTests are of each kind of layer 11's.
func knownTests() []known {
	is := func(v api.Value) func(self api.Value) answer {
		return func(self api.Value) answer { return of(self, v, true, 0) }
	}
	truth := func(is bool) answer { return map[bool]answer{false: no, true: yes}[is] }
	isOne, isTwo := is(one("1")), is(one("2"))
	aboveN := func(self api.Value, n *api.Value) answer {
		return with(n, func(n api.Value) answer { return of(self, n, false, 1) })
	}
	return []known{
		{"?n", nil}, {"?m", nil}, {"= ?n", nil}, {"(?m)", nil},
		{"-", func(api.Value, *api.Value, *api.Value) answer { return yes }},
		{"1", func(self api.Value, _, _ *api.Value) answer { return isOne(self) }},
		{"null", func(self api.Value, _, _ *api.Value) answer { return truth(self.Kind == api.Null) }},
		{"not(null)", func(self api.Value, _, _ *api.Value) answer { return truth(self.Kind != api.Null) }},
		{"1, 2", func(self api.Value, _, _ *api.Value) answer { return either(isOne(self), isTwo(self)) }},
		{"not(1)", func(self api.Value, _, _ *api.Value) answer { return other(isOne(self)) }},
		{"[1 .. 2)", func(self api.Value, _, _ *api.Value) answer {
			return other(either(of(self, one("1"), false, -1), of(self, one("2"), false, 0, 1)))
		}},
		{"> ?n", func(self api.Value, n, _ *api.Value) answer { return aboveN(self, n) }},
		{"not(> ?n)", func(self api.Value, n, _ *api.Value) answer { return other(aboveN(self, n)) }},
		{"1, > ?n", func(self api.Value, n, _ *api.Value) answer { return either(isOne(self), aboveN(self, n)) }},
		{"?n, ?m", func(self api.Value, n, m *api.Value) answer {
			same := func(v *api.Value) answer { return with(v, func(v api.Value) answer { return is(v)(self) }) }
			return either(same(n), same(m))
		}},
		{"(?n .. ?m]", func(self api.Value, n, m *api.Value) answer {
			low := other(aboveN(self, n))
			high := with(m, func(m api.Value) answer { return of(self, m, false, 1) })
			return other(either(low, high))
		}},
	}
}

// slotAsked is a slot of a pattern of the model.
type slotAsked struct {
	slot string
	test known
}

// modelPass goes from the last slot to the first: what the slots ahead bind is
// asked anew for each of them.
func modelPass(ts []api.Template, name string, l []slotAsked, f api.Fact, vars []api.Binding) ([]api.Binding, bool) {
	if f.T < 0 || f.T >= len(ts) || ts[f.T].Name != name {
		return nil, false
	}
	for _, t := range ts[:f.T] {
		if t.Name == name {
			return nil, false
		}
	}
	if len(l) == 0 {
		return slices.Clone(vars), true
	}
	bound, ok := modelPass(ts, name, l[:len(l)-1], f, vars)
	last := l[len(l)-1]
	var at []int
	for i, s := range ts[f.T].Slots {
		if s.Name == last.slot {
			at = append(at, i)
		}
	}
	if !ok || len(at) == 0 || at[0] >= len(f.S) {
		return nil, false
	}
	self := f.S[at[0]]
	first := map[string]*api.Value{}
	for i := len(bound) - 1; i >= 0; i-- {
		first[bound[i].Name] = &bound[i].V
	}
	if last.test.tells != nil {
		if last.test.tells(self, first["n"], first["m"]) != yes {
			return nil, false
		}
		return bound, true
	}
	v := strings.Trim(last.test.text, "= ?()")
	if first[v] == nil {
		return append(bound, api.Binding{Name: v, V: self}), true
	}
	if *first[v] != self {
		return nil, false
	}
	return bound, true
}

// P18.1: tests by chance, of which the model knows what each tells.
func TestModel(t *testing.T) {
	r := rand.New(rand.NewSource(18))
	all := knownTests()
	pool := values(`null 0 1 1 1 2 2 3 1.0 1.5 2.0 "u"`)
	names := []string{"x", "y", "z", "w"}
	counts := map[bool]int{}
	for range 20000 {
		var ts []api.Template
		for range 1 + r.Intn(3) {
			ts = append(ts, api.Template{Name: []string{"a", "a", "b"}[r.Intn(3)], Slots: slots("x y z w x")[r.Intn(3):][:1+r.Intn(3)]})
		}
		h := handed{Templates: ts, Fact: api.Fact{T: r.Intn(len(ts)), S: make([]api.Value, 4-r.Intn(5)/2)}}
		if r.Intn(3) > 0 {
			h.Fact.T = max(0, template.Find(ts, "a"))
		}
		for i := range h.Fact.S {
			h.Fact.S[i] = pool[r.Intn(len(pool))]
		}
		for range r.Intn(4) {
			h.Vars = append(h.Vars, api.Binding{Name: []string{"n", "m", "k"}[r.Intn(3)], V: pool[r.Intn(len(pool))]})
		}
		var l []slotAsked
		var texts []string
		for range r.Intn(5) {
			x := slotAsked{names[r.Intn(3+r.Intn(2))], all[r.Intn(len(all))]}
			l = append(l, x)
			texts = append(texts, x.slot+": "+x.test.text)
		}
		h.Pattern = pattern(t, "a("+strings.Join(texts, ", ")+")")
		want, ok := modelPass(ts, "a", l, h.Fact, h.Vars)
		counts[ok]++
		h.hold(t, want, ok)
		if t.Failed() {
			t.Fatalf("a(%s)", strings.Join(texts, ", "))
		}
	}
	if counts[true] < 3000 || counts[false] < 3000 {
		t.Errorf("only %d pass, %d do not", counts[true], counts[false])
	}
}

// P18.1: what each test of the model tells, alone and under all bindings.
func TestKnownTests(t *testing.T) {
	pool := values(`null 1 2 1.0 1.5 "u" true #u`)
	bound := [][]api.Binding{nil}
	for _, v := range pool {
		bound = append(bound, []api.Binding{{Name: "n", V: v}}, []api.Binding{{Name: "m", V: v}})
		for _, w := range pool {
			bound = append(bound, []api.Binding{{Name: "m", V: v}, {Name: "n", V: w}})
		}
	}
	for _, x := range knownTests() {
		p := pattern(t, "b(x: "+x.text+")")
		for _, self := range pool {
			f := api.Fact{T: 1, S: []api.Value{self}}
			for _, vars := range bound {
				want, ok := modelPass(usual(), "b", []slotAsked{{"x", x}}, f, vars)
				handed{usual(), p, f, vars}.hold(t, want, ok)
			}
		}
	}
}

// wordsPass is the chapter's words once more, of anything at all; layer 11 is
// asked of each test.
func wordsPass(h handed) ([]api.Binding, bool) {
	at := map[string]int{}
	for i := len(h.Templates) - 1; i >= 0; i-- {
		at[h.Templates[i].Name] = i
	}
	if i, ok := at[h.Pattern.T]; !ok || i != h.Fact.T {
		return nil, false
	}
	here := map[string]int{}
	for i, s := range slices.Backward(h.Templates[h.Fact.T].Slots) {
		here[s.Name] = i
	}
	bound := slices.Clone(h.Vars)
	for _, s := range h.Pattern.Slots {
		place, ok := here[s.Slot]
		if !ok || place >= len(h.Fact.S) {
			return nil, false
		}
		self := h.Fact.S[place]
		name, isVar := unary.Var(s.Test)
		i := slices.IndexFunc(bound, func(b api.Binding) bool { return b.Name == name })
		switch {
		case isVar && i < 0:
			bound = append(bound, api.Binding{Name: name, V: self})
		case isVar && bound[i].V != self, !isVar && !unary.Pass(s.Test, self, bound):
			return nil, false
		}
	}
	return bound, true
}

// steered makes anything, of which some may pass: the fact is of the pattern's
// template, slots are mostly there, and some tests tell true or are a variable.
func steered(r *rand.Rand) handed {
	h := anything[handed](r)
	if len(h.Templates) == 0 {
		return h
	}
	h.Fact.T = r.Intn(len(h.Templates))
	h.Pattern.T = h.Templates[h.Fact.T].Name
	l := h.Templates[h.Fact.T].Slots
	for i := range h.Pattern.Slots {
		s := &h.Pattern.Slots[i]
		if len(l) > 0 {
			s.Slot = l[r.Intn(len(l))].Name
		}
		s.Test = append(s.Test, anything[api.Test](r))
		last := &s.Test[len(s.Test)-1]
		switch last.Op = api.TestAny; r.Intn(4) {
		case 0:
			s.Test = s.Test[len(s.Test)-1:]
			*last = api.Test{Op: api.TestEq, A: api.Expr{anything[api.Node](r)}}
			s.Test[0].A[0].Op = api.OpVar
		case 1:
			*last = anything[api.Test](r)
		}
	}
	return h
}

// P1, P18.1: anything at all.
func TestAnything(t *testing.T) {
	r := rand.New(rand.NewSource(1))
	counts := map[bool]int{}
	for i := range 10000 {
		h := anything[handed](r)
		if i%2 == 0 {
			h = steered(r)
		}
		want, ok := wordsPass(h)
		counts[ok && len(h.Pattern.Slots) > 0]++
		h.hold(t, want, ok)
	}
	if counts[true] < 300 {
		t.Errorf("only %d pass", counts[true])
	}
}

// P1, P18.1: each part of what passes changed alone.
func TestEachPartChanged(t *testing.T) {
	h := handed{usual(), pattern(t, "f: a(x: ?n, y: > ?n, (0 .. ?k], z: not(?m, 4))"), api.Fact{ID: 1, S: values("1 2 3")}, bindings("k 2 m 7")}
	h.hold(t, bindings("k 2 m 7 n 1"), true)
	counts := map[bool]int{}
	for i, v := range partsOf(&h) {
		for k := range changes(v) {
			c := copyOf(h)
			changes(partsOf(&c)[i])[k]()
			want, ok := wordsPass(c)
			counts[ok]++
			c.hold(t, want, ok)
		}
	}
	if counts[true] < 100 || counts[false] < 100 {
		t.Errorf("only %d pass, %d do not", counts[true], counts[false])
	}
}

// P1, P18.1: tests that are not there, or broken.
func TestBrokenTests(t *testing.T) {
	n := api.Node{Op: api.OpVar, Name: "n"}
	for i, x := range []struct {
		test   api.Tests
		wants  string
		passes bool
	}{
		{nil, "", false}, {api.Tests{}, "", false}, {api.Tests{{}}, "", false}, {api.Tests{{Op: 255}}, "", false},
		{api.Tests{{Op: api.TestEq}}, "", false}, {api.Tests{{Op: api.TestNot}}, "", false}, {api.Tests{{Op: api.TestList}}, "", false},
		{api.Tests{{Op: api.TestNot, Kids: []int{0}}}, "", false}, {api.Tests{{Op: api.TestAny}, {Op: api.TestNot, Kids: []int{-1}}}, "", false}, {api.Tests{{Op: api.TestAny}, {Op: api.TestNot, Kids: []int{1 << 40, 0}}}, "", false},
		{api.Tests{{Op: api.TestAny}, {}}, "", false}, {api.Tests{{}, {Op: api.TestAny}}, "", true}, {api.Tests{{Op: api.TestAny, Kids: []int{7}, A: api.Expr{n}}}, "", true},
		// Variables alone, as layer 11 tells them, with parts that mean nothing.
		{api.Tests{{Op: api.TestEq, A: api.Expr{n}, B: api.Expr{{}}, Low: true, Kids: []int{-1}}}, "n 1", true}, {api.Tests{{Op: api.TestEq, A: api.Expr{{Op: api.OpVar, Name: "not", Kids: []int{0}}}}}, "not 1", true},
		// None: more nodes, another op.
		{api.Tests{{Op: api.TestEq, A: api.Expr{n}}, {Op: api.TestEq, A: api.Expr{n}}}, "", false}, {api.Tests{{Op: api.TestEq, A: api.Expr{{}, n}}}, "", false}, {api.Tests{{Op: api.TestGe, A: api.Expr{n}}}, "", false}, {api.Tests{{Op: api.TestEq, A: api.Expr{{Op: api.OpSelf, Name: "n"}}}}, "", true},
	} {
		h := handed{usual(), api.Pattern{T: "b", Slots: []api.SlotTest{{Slot: "x", Test: x.test}}}, api.Fact{T: 1, S: values("1")}, nil}
		h.hold(t, bindings(x.wants), x.passes)
		if t.Failed() {
			t.Fatal(i)
		}
	}
	// Nodes that stand below others more than once are worked out once.
	twice := api.Pattern{T: "b", Slots: []api.SlotTest{{Slot: "x", Test: api.Tests{{Op: api.TestLt, A: doubled(api.Expr{n})}}}}}
	handed{usual(), twice, api.Fact{T: 1, S: values("1")}, bindings("n 1")}.hold(t, bindings("n 1"), true)
	// A variable without a name is one.
	p := api.Pattern{T: "b", Slots: []api.SlotTest{{Slot: "x", Test: api.Tests{{Op: api.TestEq, A: api.Expr{{Op: api.OpVar}}}}}}}
	f := api.Fact{T: 1, S: values("1")}
	handed{usual(), p, f, nil}.hold(t, []api.Binding{{V: one("1")}}, true)
	handed{usual(), p, f, []api.Binding{{V: one("2")}}}.hold(t, nil, false)
}
