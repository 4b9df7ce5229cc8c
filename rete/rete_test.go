package rete

import (
	"math"
	"reflect"
	"slices"
	"strconv"
	"strings"
	"testing"

	"witan/api"
	"witan/negate"
)

func fact(id, t int, s string) api.Fact { return api.Fact{ID: id, T: t, S: values(s)} }

// of holds a network of rules of such conditions.
func of(t *testing.T, rules ...string) *held {
	t.Helper()
	h := hold(t, program(t, rules...))
	if h == nil {
		t.Fatal("not well-formed:", rules)
	}
	return h
}

// wantAdd asks for what is gone and what is new by a fact that comes.
func (h *held) wantAdd(f api.Fact, wantGone, wantCome string) {
	h.t.Helper()
	gone, come, e := h.add(f)
	if show(gone) != wantGone || show(come) != wantCome || e != api.OK {
		h.t.Errorf("Add %s: %s; %s, %d; not %s; %s", plain(f), show(gone), show(come), e, wantGone, wantCome)
	}
}

// wantRemove asks for what is gone and what is new by a fact that goes.
func (h *held) wantRemove(id int, wantGone, wantCome string) {
	h.t.Helper()
	gone, come, e := h.remove(id)
	if show(gone) != wantGone || show(come) != wantCome || e != api.OK {
		h.t.Errorf("Remove %d: %s; %s, %d; not %s; %s", id, show(gone), show(come), e, wantGone, wantCome)
	}
}

func (h *held) refusesAdd(f api.Fact, want api.Errno) {
	h.t.Helper()
	if _, _, e := h.add(f); e != want {
		h.t.Errorf("Add %s: %d, not %d", plain(f), e, want)
	}
}

func (h *held) refusesRemove(ids ...int) {
	h.t.Helper()
	for _, id := range ids {
		if _, _, e := h.remove(id); e != api.ErrNone {
			h.t.Errorf("Remove %d: %d", id, e)
		}
	}
}

func (h *held) wantActs(want string) {
	h.t.Helper()
	if s := show(h.net.Acts()); s != want {
		h.t.Errorf("Acts: %s, not %s", s, want)
	}
}

// wantVars asks for what a match binds, as "name number name number".
func (h *held) wantVars(want string, rule int, tuple ...int) {
	h.t.Helper()
	var words []string
	for _, b := range h.net.Vars(api.Act{Rule: rule, Tuple: tuple}) {
		words = append(words, b.Name, strconv.FormatInt(b.V.N, 10))
	}
	if s := strings.Join(words, " "); s != want {
		h.t.Errorf("Vars %d %v: %s, not %s", rule, tuple, s, want)
	}
}

// wantSizes asks for the rows of the nodes behind the first one, and for all alpha
// memories' facts.
func (h *held) wantSizes(rows int, want ...int) {
	h.t.Helper()
	sum := 0
	for _, n := range want {
		sum += n
	}
	if l := h.net.Sizes(); !slices.Equal(l, append([]int{1}, want...)) || h.net.Tokens() != sum || h.net.Rows() != rows {
		h.t.Errorf("Sizes %v, Tokens %d, Rows %d; not 1 and %v, %d, %d", l, h.net.Tokens(), h.net.Rows(), want, sum, rows)
	}
}

// The chapter's examples.
func TestExamples(t *testing.T) {
	n, e := New(program(t, "a(x: ?n) not b(z: ?n)"))
	if e != api.OK {
		t.Fatal(e)
	}
	for _, x := range []struct {
		call       func() (gone, come []api.Act, e api.Errno)
		gone, come string
	}{
		{func() (gone, come []api.Act, e api.Errno) { return n.Add(fact(1, 0, "7 0")) }, "", "0:1"},
		{func() (gone, come []api.Act, e api.Errno) { return n.Add(fact(2, 1, "7")) }, "0:1", ""},
		{func() (gone, come []api.Act, e api.Errno) { return n.Remove(2) }, "", "0:1"},
	} {
		if gone, come, e := x.call(); show(gone) != x.gone || show(come) != x.come || e != api.OK {
			t.Error(x.gone, x.come, show(gone), show(come), e)
		}
	}
}

// P25.1: a program that is not well-formed has no network.
func TestNotWellFormed(t *testing.T) {
	for _, rules := range [][]string{
		{"a(z: 1)"}, {"e()"}, {"a(x: > ?n)"}, {"a(x: \"u\")"}, {"not a(x: ?n) a(x: > ?n)"}, {"exists a(x: ?n) test ?n > 0"}, {"not (a(x: ?n) b(z: ?n)) test ?n > 0"},
		{"test ? > 1"}, {"test 1"}, {"test ?n"}, {"a(x: ?n, x: 1)"}, {"a() a() a() a() a()"}, {"p: a() p: b()"}, {"a(x: ?n) c(s: ?n)"},
		{"a()", "a(x: ?m) test ?n > 0", "b()"},
	} {
		if hold(t, program(t, rules...)) != nil {
			t.Error(rules)
		}
	}
	p := program(t, "a()", "b()")
	for what, change := range map[string]func(p *api.Program){
		"two templates of one name":       func(p *api.Program) { p.Templates[1].Name = "a" },
		"a slot of no kind":               func(p *api.Program) { p.Templates[0].Slots[0].Kind = 9 },
		"two rules of one name":           func(p *api.Program) { p.Rules[1].Name = "r0" },
		"a salience beyond the bound":     func(p *api.Program) { p.Rules[1].Salience = 101 },
		"a condition of no kind":          func(p *api.Program) { p.Rules[0].Conds[0].Kind = 0 },
		"a condition of another kind":     func(p *api.Program) { p.Rules[0].Conds[0].Kind = 6 },
		"a pattern without its condition": func(p *api.Program) { p.Rules[0].Conds[0].Patterns = nil },
		"two patterns of one condition": func(p *api.Program) {
			p.Rules[0].Conds[0].Patterns = append(p.Rules[0].Conds[0].Patterns, p.Rules[1].Conds[0].Patterns...)
		},
		"a group of none": func(p *api.Program) {
			p.Rules[0].Conds[0] = api.Cond{Kind: api.CondNone}
		},
		"a test of no nodes": func(p *api.Program) {
			p.Rules[0].Conds[0] = api.Cond{Kind: api.CondTest}
		},
	} {
		c := copyOf(p)
		if change(&c); hold(t, c) != nil {
			t.Error(what)
		}
	}
}

// P25.1: programs without rules, and without anything.
func TestNoRules(t *testing.T) {
	for _, p := range []api.Program{{}, program(t)} {
		h := hold(t, p)
		h.wantAdd(fact(1, 0, "1 1"), "", "")
		h.wantSizes(0)
		h.wantActs("")
		h.wantVars("", 0)
		h.refusesAdd(fact(1, 0, ""), api.ErrTwice)
		h.wantRemove(1, "", "")
	}
}

// P25.1, P25.2: a rule without conditions matches from the first on.
func TestNoConditions(t *testing.T) {
	h := of(t, "a()", "", "b()", "")
	h.wantActs("1: 3:")
	h.wantSizes(0, 0, 0)
	h.wantAdd(fact(4, 1, "1"), "", "2:4")
	h.wantActs("1: 2:4 3:")
	h.wantVars("", 1)
	h.wantVars("", 3, 4)
	h.wantAdd(fact(2, 0, "1 1"), "", "0:2")
	h.wantRemove(4, "2:4", "")
	h.wantRemove(2, "0:2", "")
	h.wantActs("1: 3:")
}

// P25.1: a rule that begins with a condition of another kind than CondIs.
func TestBeginnings(t *testing.T) {
	for _, x := range []struct{ conds, first, by1, by2 string }{
		{"not b()", "0:", "", ""},
		{"exists b()", "", "0:", "0:"},
		{"not (b())", "0:", "", ""},
		{"not (b(z: ?n) b(z: > ?n))", "0:", "0:", ""},
		{"test 1 < 2", "0:", "0:", "0:"},
		{"test 2 < 1", "", "", ""},
		{"test null", "", "", ""},
		{"test 1 / 0 = 1", "", "", ""},
		{"not b() not b() exists b()", "", "", ""},
		{"test true exists b(z: 2) test true", "", "", "0:"},
		{"not b(z: 2) exists b()", "", "0:", ""},
	} {
		h := of(t, x.conds)
		for _, calls := range []func(){
			func() { h.add(fact(1, 1, "1")); h.wantActs(x.by1); h.add(fact(2, 1, "2")) },
			func() { h.remove(1); h.remove(2); h.wantActs(x.first); h.add(fact(2, 1, "2")); h.add(fact(1, 1, "1")) },
		} {
			h.wantActs(x.first)
			calls()
			h.wantActs(x.by2)
			h.remove(2)
			h.wantActs(x.by1)
			h.remove(1)
			h.wantActs(x.first)
		}
	}
}

// P25.1: a test that passes, that does not, that tells an error, under some bindings.
func TestTests(t *testing.T) {
	for _, x := range []struct {
		test  string
		match bool
		n     string
	}{
		{"?n > 0", true, "1"}, {"?n > 0", false, "0"}, {"?n > 0", false, "null"}, {"?n = null", true, "null"}, {"?n = null", false, "1"},
		{"6 / ?n > 2", true, "2"}, {"6 / ?n > 2", false, "3"}, {"6 / ?n > 2", false, "0"}, {"?n = 0 or 6 / ?n > 2", true, "0"}, {"6 / ?n > 2 or true", false, "0"},
		{"?n + 9223372036854775807 > 0", true, "0"}, {"?n + 9223372036854775807 > 0", false, "1"}, {"?n + 9223372036854775807 > 0", true, "-5"},
		{"1 < 2", true, "0"}, {"2 < 1", false, "0"}, {"null", false, "0"}, {"true", true, "null"}, {"1 / 0 = 1", false, "1"}, {"not(?n > 0)", true, "0"}, {"not(?n > 0)", false, "null"},
		{"?n > 0 and ?n < 2", true, "1"}, {"if(?n > 0, true, null)", false, "0"}, {"?n > 0", false, "\"u\""}, {"?n = 1", false, "bad"}, {"?n = 1", false, "1.5"},
	} {
		h := of(t, "a(x: ?n) test "+x.test+" b()", "a(x: ?n) test "+x.test, "not a(x: ?n)")
		h.wantAdd(fact(7, 1, "1"), "", "")
		want, both := "", ""
		if x.match {
			want, both = "1:5", "0:5,7 1:5"
		}
		h.wantAdd(fact(5, 0, x.n+" 1"), "2:", both)
		h.wantRemove(7, strings.TrimSuffix(both, want)[:max(0, len(both)-len(want)-1)], "")
		h.wantRemove(5, want, "2:")
		if t.Failed() {
			t.Fatal(x)
		}
	}
}

// P25.1: a test of no variable, ahead of and behind what matches, and tests of slots
// that name self.
func TestTestsOfNoVariable(t *testing.T) {
	h := of(t, "test 1 < 2 a()", "a() test 1 < 2", "test 2 < 1 a()", "a() test 2 < 1", "a(x: > 6 / ?)", "a(x: ?n, y: [?n .. ?n * ?])")
	h.wantAdd(fact(1, 0, "3 1"), "", "0:1 1:1 4:1")
	h.wantAdd(fact(2, 0, "2 2"), "", "0:2 1:2 5:2")
	h.wantAdd(fact(3, 0, "0 0"), "", "0:3 1:3 5:3")
	h.wantRemove(2, "0:2 1:2 5:2", "")
}

// P25.1: conditions of the same template, of which one fact passes several, and stands
// more than once in a tuple.
func TestSameTemplate(t *testing.T) {
	h := of(t, "a(x: ?n) a(y: ?n)", "a() a() a()")
	h.wantAdd(fact(1, 0, "1 1"), "", "0:1,1 1:1,1,1")
	h.wantAdd(fact(2, 0, "1 2"), "", "0:2,1 1:1,1,2 1:1,2,1 1:1,2,2 1:2,1,1 1:2,1,2 1:2,2,1 1:2,2,2")
	h.wantRemove(1, "0:1,1 0:2,1 1:1,1,1 1:1,1,2 1:1,2,1 1:1,2,2 1:2,1,1 1:2,1,2 1:2,2,1", "")
	h.wantAdd(fact(3, 0, "2 1"), "", "0:2,3 0:3,2 1:2,2,3 1:2,3,2 1:2,3,3 1:3,2,2 1:3,2,3 1:3,3,2 1:3,3,3")
	h.wantRemove(2, "0:2,3 0:3,2 1:2,2,2 1:2,2,3 1:2,3,2 1:2,3,3 1:3,2,2 1:3,2,3 1:3,3,2", "")
	h.wantSizes(1, 1, 0, 1, 1, 1)
}

// P25.1: one fact is a right of several conditions of a rule, of which it makes one
// true and another one false.
func TestOneFactSeveralConditions(t *testing.T) {
	h := of(t, "a(x: ?n) not a(y: ?n)", "a(x: ?n) exists a(y: ?n)", "a(x: ?n) not a(x: > ?n) a(y: ?n)", "not a(x: 5) a() exists a(x: 1)", "a(x: ?n) not (a(y: ?n) a(x: ?m))")
	h.wantAdd(fact(1, 0, "1 1"), "", "1:1 2:1,1 3:1")
	h.wantAdd(fact(2, 0, "2 1"), "2:1,1", "0:2 3:2 4:2")
	h.wantAdd(fact(3, 0, "3 2"), "0:2 4:2", "0:3 1:2 3:3 4:3")
	h.wantAdd(fact(4, 0, "5 3"), "0:3 3:1 3:2 3:3 4:3", "0:4 1:3 4:4")
	h.wantRemove(3, "1:2 1:3", "0:2 4:2")
}

// P25.1: variables that are bound ahead, and asked behind a not, an exists, a none, in
// which others of the same name may be bound.
func TestBoundAhead(t *testing.T) {
	h := of(t,
		"a(x: ?n, y: ?m) not b(z: ?n) a(x: ?m)",
		"a(x: ?n, y: ?m) exists b(z: ?n) a(x: ?m)",
		"a(x: ?n, y: ?m) not (b(z: ?k) b(z: > ?k)) a(x: ?m, y: ?k)",
		"not b(z: ?n) a(x: ?n)",
		"exists b(z: ?n) a(x: ?n)",
	)
	h.wantAdd(fact(1, 0, "1 2"), "", "3:1")
	h.wantAdd(fact(2, 0, "2 3"), "", "0:1,2 2:1,2 3:2")
	h.wantVars("n 1 m 2", 0, 1, 2)
	h.wantVars("n 1 m 2 k 3", 2, 1, 2)
	h.wantVars("n 2", 3, 2)
	h.wantAdd(fact(3, 1, "1"), "0:1,2 3:1 3:2", "1:1,2 4:1 4:2")
	h.wantVars("n 1 m 2", 1, 1, 2)
	h.wantVars("n 1", 4, 1)
	h.wantVars("", 3, 1)
	h.wantAdd(fact(4, 1, "7"), "2:1,2", "")
	h.wantRemove(3, "1:1,2", "0:1,2 2:1,2")
	h.wantRemove(4, "4:1 4:2", "3:1 3:2")
	h.wantRemove(2, "0:1,2 2:1,2 3:2", "")
}

// P25.1: a none of one pattern is a not of it.
func TestNoneOfOne(t *testing.T) {
	h := of(t, "a(x: ?n) not b(z: ?n) b()", "a(x: ?n) not (b(z: ?n)) b()", "not a()", "not (a())")
	h.wantActs("2: 3:")
	h.wantAdd(fact(1, 0, "1 1"), "2: 3:", "")
	h.wantAdd(fact(2, 1, "2"), "", "0:1,2 1:1,2")
	h.wantAdd(fact(3, 1, "1"), "0:1,2 1:1,2", "")
	h.wantAdd(fact(4, 0, "3 3"), "", "0:4,2 0:4,3 1:4,2 1:4,3")
	h.wantRemove(3, "0:4,3 1:4,3", "0:1,2 1:1,2")
	h.wantRemove(1, "0:1,2 1:1,2", "")
	h.wantRemove(4, "0:4,2 1:4,2", "2: 3:")
}

// P25.1, P25.3: rules that share all, some and no nodes.
func TestShared(t *testing.T) {
	h := of(t, "a(x: ?n) b(z: ?n)", "a(x: ?n) b(z: ?n)", "p: a(x: ?n) not b(z: ?n)", "a(x: ?n)", "b(z: ?n) a(x: ?n)", "a(x: ?m)", "")
	h.wantActs("6:")
	h.wantSizes(0, 0, 0, 0, 0, 0, 0)
	h.wantAdd(fact(1, 0, "1 1"), "", "2:1 3:1 5:1")
	h.wantSizes(1, 1, 0, 1, 0, 0, 1)
	h.wantAdd(fact(2, 1, "1"), "2:1", "0:1,2 1:1,2 4:2,1")
	h.wantSizes(2, 1, 1, 0, 1, 1, 1)
	h.wantAdd(fact(3, 0, "1 5"), "", "0:3,2 1:3,2 3:3 4:2,3 5:3")
	h.wantSizes(3, 2, 2, 0, 1, 2, 2)
	h.wantRemove(2, "0:1,2 0:3,2 1:1,2 1:3,2 4:2,1 4:2,3", "2:1 2:3")
	h.wantSizes(2, 2, 0, 2, 0, 0, 2)
	h.wantVars("n 1", 2, 3)
	h.wantVars("m 1", 5, 3)
}

// P25.3: alpha memories that are shared, and facts that pass several.
func TestRows(t *testing.T) {
	h := of(t, "a(x: 1, y: 2)", "not (a(x: 1) a(x: 1, y: > 2) a())", "exists b()", "b(z: not(1)) a(x: 2)")
	for i, x := range []struct {
		f    api.Fact
		rows int
	}{
		{fact(1, 0, "1 2"), 3}, {fact(2, 0, "1 3"), 6}, {fact(3, 0, "1 1"), 8}, {fact(4, 0, "2 2"), 10}, {fact(5, 0, "3 2"), 11},
		{fact(6, 1, "1"), 12}, {fact(7, 1, "2"), 14}, {fact(8, 2, "\"u\" 1.0 1"), 14}, {fact(9, -1, "1 2"), 14}, {fact(10, 4, "1 2"), 14},
		{fact(11, 0, ""), 15}, {fact(12, 0, "1"), 17}, {fact(13, 1, ""), 18},
	} {
		if h.add(x.f); h.net.Rows() != x.rows {
			t.Error(i, h.net.Rows(), x.rows)
		}
	}
	h.refusesAdd(fact(1, 0, "1 2"), api.ErrTwice)
	h.remove(2)
	h.remove(8)
	h.remove(6)
	if h.net.Rows() != 14 {
		t.Error(h.net.Rows())
	}
}

// P25.1, P25.2: each match has its rule's salience.
func TestSalience(t *testing.T) {
	p := program(t, "a()", "a()", "not b()", "a()")
	for i, n := range []int{100, 0, -100, 7} {
		p.Rules[i].Salience = n
	}
	h := hold(t, p)
	_, come, _ := h.net.Add(fact(5, 0, "1 1"))
	gone, _, _ := h.net.Add(fact(6, 1, "1"))
	var l []int
	for _, a := range slices.Concat(come, gone, h.net.Acts()) {
		l = append(l, a.Salience)
	}
	if want := []int{100, 0, 7, -100, 100, 0, 7}; !slices.Equal(l, want) {
		t.Error(l)
	}
	for _, salience := range []int{0, 7, -7, math.MaxInt, math.MinInt} {
		if v := h.net.Vars(api.Act{Rule: 0, Tuple: []int{5}, Salience: salience}); len(v) > 0 {
			t.Error(v)
		}
	}
}

// P25.1: a fact that makes matches of several rules, and ends some, at once; and what
// goes with it.
func TestNewAndGone(t *testing.T) {
	h := of(t, "b(z: ?n)", "not b(z: 1)", "exists b()", "a(x: ?n) not b(z: ?n)", "a(x: ?n) b(z: ?n)", "not (a(x: ?n) b(z: ?n))", "a(x: ?n) exists b(z: ?n)")
	h.wantActs("1: 5:")
	h.wantAdd(fact(8, 0, "1 1"), "", "3:8")
	h.wantAdd(fact(9, 0, "1 2"), "", "3:9")
	h.wantAdd(fact(3, 1, "1"), "1: 3:8 3:9 5:", "0:3 2: 4:8,3 4:9,3 6:8 6:9")
	h.wantAdd(fact(2, 1, "1"), "", "0:2 4:8,2 4:9,2")
	h.wantRemove(3, "0:3 4:8,3 4:9,3", "")
	h.wantRemove(2, "0:2 2: 4:8,2 4:9,2 6:8 6:9", "1: 3:8 3:9 5:")
	h.wantRemove(8, "3:8", "")
	h.wantRemove(9, "3:9", "")
}

// P25.1: facts that change no match.
func TestNoMatch(t *testing.T) {
	h := of(t, "a(x: ?n, y: 5) not b(z: ?n)", "exists a(x: 7)")
	for id, f := range []api.Fact{fact(0, 0, "1 6"), fact(0, 0, "1"), fact(0, 0, ""), fact(0, 2, "\"u\" 1.0 1"), fact(0, 3, "true"), fact(0, 4, "1 5"), fact(0, -1, "1 5"), fact(0, math.MaxInt, "1 5"), fact(0, math.MinInt, "1 5"), fact(0, 0, "1 5.5"), fact(0, 0, "1 null"), fact(0, 0, "1 bad"), fact(0, 1, "9"), fact(0, 1, ""), fact(0, 1, "9 9")} {
		f.ID = id + 1
		h.wantAdd(f, "", "")
	}
	h.wantAdd(fact(100, 0, "null 5"), "", "0:100")
	h.wantAdd(fact(101, 0, "worse 5 7 7 7"), "", "0:101")
	h.wantAdd(fact(102, 0, "9 5"), "", "")
	h.wantAdd(fact(103, 0, "7 5"), "", "0:103 1:")
	for id := range 12 {
		h.wantRemove(id+1, "", "")
	}
	h.wantRemove(13, "", "")
	h.wantRemove(15, "", "0:102")
	h.wantRemove(14, "", "")
}

// P25.1: others that keep a not false, an exists true, a none off.
func TestOthersStay(t *testing.T) {
	h := of(t, "a(x: ?n) not b(z: ?n)", "a(x: ?n) exists b(z: ?n)", "a(x: ?n) not (b(z: ?n) b(z: ?n))")
	h.wantAdd(fact(1, 1, "1"), "", "")
	h.wantAdd(fact(2, 0, "1 1"), "", "1:2")
	h.wantAdd(fact(3, 1, "1"), "", "")
	h.wantAdd(fact(4, 1, "1"), "", "")
	h.wantRemove(1, "", "")
	h.wantRemove(4, "", "")
	h.wantRemove(3, "1:2", "0:2 2:2")
	h.wantAdd(fact(3, 1, "1"), "0:2 2:2", "1:2")
}

// P25.1: errors, which of them, and what they leave as it was.
func TestRefused(t *testing.T) {
	h := of(t, "a(x: ?n)", "not b()")
	for _, id := range []int{0, -1, -7, math.MinInt, -1 << 32} {
		h.refusesAdd(fact(id, 0, "1 1"), api.ErrArg)
		h.refusesAdd(fact(id, 0, "1 1"), api.ErrArg)
		h.refusesAdd(fact(id, 1, "1"), api.ErrArg)
		h.refusesRemove(id)
	}
	h.wantAdd(fact(1, 0, "1 1"), "", "0:1")
	for _, f := range []api.Fact{fact(1, 0, "1 1"), fact(1, 0, "2 2"), fact(1, 1, "1"), fact(1, -1, ""), fact(1, 0, "")} {
		h.refusesAdd(f, api.ErrTwice)
	}
	h.refusesRemove(2, 0, -1, 1<<32+1, math.MaxInt, math.MinInt)
	h.wantVars("n 1", 0, 1)
	h.wantAdd(fact(9, -1, ""), "", "")
	h.refusesAdd(fact(9, 0, "1 1"), api.ErrTwice)
	h.wantActs("0:1 1:")
	h.wantRemove(1, "0:1", "")
	h.refusesRemove(1)
	h.wantRemove(9, "", "")
	h.refusesRemove(9)
	h.wantActs("1:")
}

// P25.1: the same ID again, with another fact.
func TestAgain(t *testing.T) {
	h := of(t, "a(x: ?n) b(z: ?n)", "not b(z: 2)")
	h.wantAdd(fact(1, 0, "1 1"), "", "")
	h.wantAdd(fact(2, 1, "1"), "", "0:1,2")
	h.wantVars("n 1", 0, 1, 2)
	h.wantRemove(1, "0:1,2", "")
	h.wantAdd(fact(1, 1, "2"), "1:", "")
	h.wantRemove(2, "", "")
	h.wantAdd(fact(2, 0, "2 2"), "", "0:2,1")
	h.wantVars("n 2", 0, 2, 1)
	h.wantVars("", 0, 1, 2)
	h.wantRemove(1, "0:2,1", "1:")
	h.wantAdd(fact(1, 1, "2"), "1:", "0:2,1")
	h.wantRemove(2, "0:2,1", "")
	h.wantAdd(fact(2, 0, "2 7"), "", "0:2,1")
}

// P25.1, P25.2: the order of what is told: by rules, then by tuples, place by place.
func TestOrder(t *testing.T) {
	h := of(t, "b(z: ?n) a(x: ?n)", "a(x: ?n)", "a(x: ?n) b(z: ?n)", "a() a()")
	h.wantAdd(fact(900, 0, "1 1"), "", "1:900 3:900,900")
	h.wantAdd(fact(90, 0, "1 1"), "", "1:90 3:90,90 3:90,900 3:900,90")
	h.wantAdd(fact(1<<32, 0, "1 1"), "", "1:4294967296 3:90,4294967296 3:900,4294967296 3:4294967296,90 3:4294967296,900 3:4294967296,4294967296")
	h.wantRemove(1<<32, "1:4294967296 3:90,4294967296 3:900,4294967296 3:4294967296,90 3:4294967296,900 3:4294967296,4294967296", "")
	h.wantAdd(fact(100, 1, "1"), "", "0:100,90 0:100,900 2:90,100 2:900,100")
	h.wantAdd(fact(8, 1, "1"), "", "0:8,90 0:8,900 2:90,8 2:900,8")
	h.wantActs("0:8,90 0:8,900 0:100,90 0:100,900 1:90 1:900 2:90,8 2:90,100 2:900,8 2:900,100 3:90,90 3:90,900 3:900,90 3:900,900")
	h.wantAdd(fact(9, 0, "1 1"), "", "0:8,9 0:100,9 1:9 2:9,8 2:9,100 3:9,9 3:9,90 3:9,900 3:90,9 3:900,9")
	h.wantRemove(90, "0:8,90 0:100,90 1:90 2:90,8 2:90,100 3:9,90 3:90,9 3:90,90 3:90,900 3:900,90", "")
}

// P25.4: facts in another order, and with others between that go: the same matches,
// sizes and bindings.
func TestOrders(t *testing.T) {
	rules := []string{"a(x: ?n, y: ?m) not b(z: ?m) a(x: > ?n)", "exists b(z: 3) a(x: ?n) b(z: ?n)", "not (a(x: ?n, y: ?n) b(z: ?n)) b(z: ?k)", "a(x: ?n) a(y: ?n) test ?n < 3"}
	facts := []api.Fact{fact(1, 0, "1 5"), fact(2, 0, "2 2"), fact(3, 1, "3"), fact(4, 1, "1"), fact(5, 0, "5 1"), fact(6, 0, "2 1"), fact(7, 0, "3 3")}
	extra := []api.Fact{fact(8, 1, "2"), fact(9, 0, "1 1"), fact(10, 1, "5")}
	for shift := range len(facts) {
		for step := 1; step < len(facts); step++ {
			h := of(t, rules...)
			for i := range facts {
				h.add(extra[i%3])
				h.add(facts[(i*step+shift)%len(facts)])
				h.remove(extra[i%3].ID)
			}
			h.wantActs("0:1,2 0:1,5 0:1,6 0:1,7 0:2,5 0:2,7 1:1,4 1:7,3 3:1,5 3:1,6 3:2,2 3:6,2")
			h.wantVars("n 1", 3, 1, 6)
			h.wantVars("n 3", 1, 7, 3)
			h.wantVars("n 2 m 2", 0, 2, 7)
			for i := range facts {
				h.remove(facts[(i*step+shift*3)%len(facts)].ID)
			}
			h.asAtFirst()
		}
	}
}

// P25.2: what is bound, in the order in which it was, not by names nor by places.
func TestVars(t *testing.T) {
	h := of(t, "a(y: ?z, x: ?b) test ?z > 0 b(z: ?a)", "a(x: ?n, y: ?n) b(z: ?n)", "a() b()", "c(v: ?k, s: ?j, w: ?i) a(x: ?k)")
	h.add(fact(1, 0, "1 2"))
	h.add(fact(2, 1, "3"))
	h.add(fact(3, 0, "3 3"))
	h.add(fact(4, 2, "\"u\" 0.5 3"))
	h.wantActs("0:1,2 0:3,2 1:3,2 2:1,2 2:3,2 3:4,3")
	h.wantVars("z 2 b 1 a 3", 0, 1, 2)
	h.wantVars("z 3 b 3 a 3", 0, 3, 2)
	h.wantVars("n 3", 1, 3, 2)
	h.wantVars("", 2, 1, 2)
	if v := h.net.Vars(api.Act{Rule: 3, Tuple: []int{4, 3}}); !slices.Equal(v, []api.Binding{{Name: "k", V: one("3")}, {Name: "j", V: one("\"u\"")}, {Name: "i", V: one("0.5")}}) {
		t.Error(v)
	}
	for _, tuple := range [][]int{nil, {}, {1}, {2}, {1, 3}, {2, 1}, {1, 2, 0}, {1, 2, 1}, {0, 1, 2}, {1, 0}, {0, 2}, {-1, 2}, {1, -2}, {1, 1<<32 + 2}, {math.MaxInt, math.MinInt}, slices.Repeat([]int{1}, 1000)} {
		h.wantVars("", 0, tuple...)
	}
	for _, r := range []int{4, 5, -1, math.MaxInt, math.MinInt, 1 << 32} {
		h.wantVars("", r, 1, 2)
		h.wantVars("", r)
	}
	h.wantVars("", 1, 1, 2)
	h.remove(3)
	h.wantVars("", 0, 3, 2)
	h.wantVars("z 2 b 1 a 3", 0, 1, 2)
	h.remove(2)
	h.wantVars("", 0, 1, 2)
}

// P25.4: no more tokens than all rules' beginnings have rows, where nodes are shared
// and where they are not.
func TestTokens(t *testing.T) {
	for _, x := range []struct {
		rules  []string
		tokens int
	}{
		{[]string{"a() a()", "a() a() a()"}, 3 + 9 + 27},
		{[]string{"a() a()", "a() a()"}, 3 + 9},
		{[]string{"a() a()", "a(x: ?n) a(x: ?n)"}, 3 + 9 + 3 + 3},
		{[]string{"not a()", "exists a()", "not (a() b())"}, 2},
		{[]string{"exists a() exists a() exists b() a()"}, 2},
		{[]string{"test true test true test false test true"}, 2},
		{[]string{"", ""}, 0},
	} {
		h := of(t, x.rules...)
		for id := range 3 {
			h.add(api.Fact{ID: id + 1, S: []api.Value{{Kind: api.Int, N: int64(id)}, {}}})
		}
		if n := h.net.Tokens(); n != x.tokens {
			t.Error(x.rules, n, x.tokens)
		}
	}
}

// P25.1: networks of one program go their own ways.
func TestNetsAreApart(t *testing.T) {
	p := program(t, "a(x: ?n) b(z: ?n)", "not a()")
	g, h := hold(t, p), hold(t, p)
	g.wantAdd(fact(1, 0, "1 1"), "1:", "")
	h.wantAdd(fact(2, 1, "1"), "", "")
	g.wantActs("")
	h.wantActs("1:")
	h.wantAdd(fact(1, 0, "1 1"), "1:", "0:1,2")
	g.refusesRemove(2)
	g.wantRemove(1, "", "1:")
	h.wantActs("0:1,2")
}

// Rules that hold everywhere: what is told shares no memory, of one call or of
// several, and stays what it was.
func TestMemory(t *testing.T) {
	n, _ := New(program(t, "a(x: ?n, y: ?m) b(z: ?n)", "a(x: ?n, y: ?m) b(z: ?n)", "not b()", "not b()", "a() not b()"))
	var all []span
	var told [][]api.Act
	var was []string
	keep := func(l ...[]api.Act) {
		for _, x := range l {
			told, was, all = append(told, x), append(was, show(x)), append(all, spans(x)...)
		}
	}
	tell := func(gone, come []api.Act, _ api.Errno) { keep(gone, come, n.Acts(), n.Acts()) }
	for range 2 {
		tell(n.Add(fact(1, 0, "1 1")))
		tell(n.Add(fact(2, 1, "1")))
		for range 2 {
			all = append(all, spans(n.Vars(api.Act{Rule: 0, Tuple: []int{1, 2}}))...)
			all = append(all, spans(n.Sizes())...)
		}
		tell(n.Remove(2))
		tell(n.Remove(1))
	}
	if len(all) < 50 || !areApart(all) {
		t.Error("memory is shared, or there is none:", len(all))
	}
	for i, l := range told {
		if show(l) != was[i] || was[i] != was[i%(len(was)/2)] {
			t.Error(i, show(l), was[i])
		}
		for _, a := range l {
			clear(a.Tuple[:cap(a.Tuple)])
			_ = append(a.Tuple, 7)
		}
		clear(l[:cap(l)])
	}
	for i := range 4 {
		n.Add(fact(1, 0, "1 1"))
		n.Add(fact(2, 1, "1"))
		v := n.Vars(api.Act{Rule: i % 2, Tuple: []int{1, 2}})
		if !slices.Equal(v, []api.Binding{{Name: "n", V: one("1")}, {Name: "m", V: one("1")}}) {
			t.Error(v)
		}
		_ = append(v[:0], api.Binding{Name: "q"}, api.Binding{}, api.Binding{})
		s := n.Sizes()
		if !slices.Equal(s, []int{1, 1, 1, 0, 1, 0}) {
			t.Error(s)
		}
		clear(s)
	}
}

// P25.1: what is handed in is not kept.
func TestNotKept(t *testing.T) {
	p := program(t, "p: a(x: ?n, y: > ?n) not b(z: 6 / ?n) test ?n < 5 exists c(v: ?n)", "not (a(x: 1) b(z: ?k))")
	n, _ := New(p)
	spoil(reflect.ValueOf(p))
	c, f := fact(1, 2, "\"u\" 0.5 3"), fact(2, 0, "3 4")
	n.Add(c)
	clear(c.S)
	n.Add(f)
	clear(f.S)
	if l := show(n.Acts()); l != "0:2 1:" {
		t.Error(l)
	}
	gone, come, e := n.Add(fact(3, 1, "2"))
	if show(gone) != "0:2" || len(come) > 0 || e != api.OK {
		t.Error(show(gone), show(come), e)
	}
}

// P25.1 to P25.3: as many facts as a memory may have, and great programs.
func TestMany(t *testing.T) {
	const many = api.MaxFacts
	n, _ := New(program(t, "a(x: ?n) b(z: ?n)", "a(x: ?n) not b(z: ?n)", "not (a(x: ?n) b(z: ?n))", "exists b()", "a() b()"))
	for i := range many / 2 {
		gone, come, e := n.Add(api.Fact{ID: many - i, T: 0, S: []api.Value{{Kind: api.Int, N: int64(i)}, {}}})
		if len(gone) > 0 || len(come) != 1 || e != api.OK {
			t.Fatal(i, gone, come, e)
		}
	}
	for i := range many / 2 {
		gone, come, e := n.Add(api.Fact{ID: i + 1, T: 1, S: []api.Value{{Kind: api.Int, N: int64(i)}}})
		more := 0
		if i == 0 {
			more = 1
		}
		if len(gone) != 1+more || len(come) != 1+more+many/2 || e != api.OK {
			t.Fatal(i, len(gone), len(come), e)
		}
	}
	if l := n.Acts(); len(l) != many/2+1+many*many/4 || !slices.IsSortedFunc(l, compareActs) {
		t.Error(len(l))
	}
	if l := n.Sizes(); !slices.Equal(l, []int{1, many / 2, many / 2, 0, 0, 1, many / 2, many * many / 4}) || n.Rows() != many {
		t.Error(l, n.Rows())
	}
	for id := range many {
		if _, _, e := n.Remove(id + 1); e != api.OK {
			t.Fatal(id, e)
		}
	}
	if l := show(n.Acts()); l != "2:" || n.Tokens() != 1 || n.Rows() != 0 {
		t.Error(l, n.Tokens(), n.Rows())
	}
}

// P25.1 to P25.4: as many rules and conditions as a program may have.
func TestGreatProgram(t *testing.T) {
	var rules []string
	for i := range api.MaxRules {
		n := strconv.Itoa(i)
		rules = append(rules, "a(x: ?n) b(z: "+strconv.Itoa(i%3)+") not a(y: "+n+") exists a(x: < ?n + "+n+") not (a(x: > ?n + "+n+") b(z: > "+n+") a() b()) test ?n < "+n)
	}
	h := of(t, rules...)
	for id := range 8 {
		h.add(api.Fact{ID: id + 1, T: id % 2, S: values(strconv.Itoa(id%5) + " " + strconv.Itoa(id))[:2-id%2]})
	}
	if len(h.matches) < 50 {
		t.Error(len(h.matches))
	}
	for id := range 8 {
		h.remove((id*3)%8 + 1)
	}
	h.asAtFirst()
}

// P25.1: no fact changes what a test lets through, were it asked; self is a Null, were
// it named.
func TestGateOfTest(t *testing.T) {
	g := newGate(nil, api.Cond{Kind: api.CondTest, Test: api.Expr{{Op: api.OpLit, V: one("true")}}})
	a, b := g.right(fact(1, 0, "1 1"))
	c, d := g.unright(1)
	if l := slices.Concat(a, b, c, d); len(l) > 0 || len(g.left(1, nil)) != 1 {
		t.Error(l)
	}
	self := api.Expr{{Op: api.OpSelf}, {Op: api.OpLit}, {Op: api.OpEq, Kids: []int{0, 1}}}
	if g = newGate(nil, api.Cond{Kind: api.CondTest, Test: self}); len(g.left(1, nil)) != 1 {
		t.Error("self is no Null")
	}
}

// P1: great facts, and facts of any number.
func TestGreat(t *testing.T) {
	h := of(t, "a(x: ?n) not b(z: ?n)")
	h.wantAdd(fact(math.MaxInt, 0, "1 "+strings.Repeat("2 ", 1000)), "", "0:9223372036854775807")
	h.wantAdd(fact(1<<32+1, 0, "1 1"), "", "0:4294967297")
	h.wantAdd(fact(1, 1, "1"), "0:4294967297 0:9223372036854775807", "")
	h.wantRemove(1, "", "0:4294967297 0:9223372036854775807")
	h.refusesAdd(fact(math.MaxInt, 1, "1"), api.ErrTwice)
	h.wantRemove(math.MaxInt, "0:9223372036854775807", "")
}

// P1: a network that is not there, or was not made.
func TestNotMade(t *testing.T) {
	refused, _ := New(program(t, "e()"))
	for _, n := range []*Net{nil, {}, new(Net), refused} {
		for _, id := range []int{math.MinInt, -1, 0, 1, 2, math.MaxInt} {
			for range 2 {
				if gone, come, e := n.Add(fact(id, 0, "1 1")); gone != nil || come != nil || e != api.ErrNil {
					t.Error("Add", gone, come, e)
				}
				if gone, come, e := n.Remove(id); gone != nil || come != nil || e != api.ErrNil {
					t.Error("Remove", gone, come, e)
				}
			}
			for _, tuple := range [][]int{nil, {id}, {1}} {
				if v := n.Vars(api.Act{Rule: id, Tuple: tuple}); v != nil {
					t.Error("Vars", v)
				}
			}
		}
		if l := n.Acts(); l != nil {
			t.Error("Acts", l)
		}
		if l := n.Sizes(); l != nil || n.Tokens() != 0 || n.Rows() != 0 {
			t.Error("Sizes, Tokens, Rows", l, n.Tokens(), n.Rows())
		}
	}
}

// P25.3: gates have the facts alone that passed their patterns' alpha nodes.
func TestRights(t *testing.T) {
	h := of(t, "a(x: 1, y: ?n) not b(z: 2) exists a(x: > ?n)")
	for id, f := range []api.Fact{fact(0, 0, "1 1"), fact(0, 0, "2 1"), fact(0, 1, "2"), fact(0, 1, "1"), fact(0, 2, "\"u\" 1.0 1"), fact(0, 0, "1 7")} {
		f.ID = id + 1
		h.add(f)
	}
	for i, want := range [][]int{{1, 6}, {3}, {1, 2, 6}} {
		var l []int
		switch g := h.net.nodes[i+1].gate.(type) {
		case joined:
			l = g.in.Rights()
		case sieve:
			l = g.in.(*negate.Gate).Rights()
		}
		if !slices.Equal(l, want) {
			t.Error(i, l, want)
		}
	}
}
