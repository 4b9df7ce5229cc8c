package passes

import (
	"slices"
	"strings"
	"testing"

	"witan/api"
	"witan/rule"
	"witan/unary"
	"witan/vtext"
)

// one tells the value of a text. Some that may not be have words of their own.
func one(text string) api.Value {
	switch text {
	case "bad":
		return api.Value{Kind: api.Bool, N: 2}
	case "worse":
		return api.Value{Kind: 255, N: -1, S: "\xff"}
	}
	v, e := vtext.Parse(text)
	if e != api.OK {
		panic("no value's text: " + text)
	}
	return v
}

// values tells those of texts with a blank between.
func values(s string) []api.Value {
	var l []api.Value
	for _, w := range strings.Fields(s) {
		l = append(l, one(w))
	}
	return l
}

// bindings tells those of names and values with blanks between.
func bindings(s string) []api.Binding {
	var l []api.Binding
	w := strings.Fields(s)
	for i := 0; i < len(w); i += 2 {
		l = append(l, api.Binding{Name: w[i], V: one(w[i+1])})
	}
	return l
}

// pattern tells that of a text.
func pattern(t testing.TB, s string) api.Pattern {
	t.Helper()
	p, at, e := rule.Parse("rule r when " + s + " then end")
	if e != api.OK {
		t.Fatalf("%s: %v, %d", s, at, e)
	}
	return p.Rules[0].Conds[0].Patterns[0]
}

// tests tells those of a text.
func tests(t testing.TB, s string) api.Tests {
	t.Helper()
	l, at, e := unary.Read(s)
	if e != api.OK {
		t.Fatalf("%s: %v, %d", s, at, e)
	}
	return l
}

// slots are those of names; kinds are not asked.
func slots(s string) []api.Slot {
	var l []api.Slot
	for _, name := range strings.Fields(s) {
		l = append(l, api.Slot{Name: name, Kind: api.Int})
	}
	return l
}

// usual are templates of which some may not be.
func usual() []api.Template {
	return []api.Template{
		{Name: "a", Slots: slots("x y z")},
		{Name: "b", Slots: slots("x")},
		{Name: "a", Slots: slots("y x w")},   // of a name once more
		{Name: "c", Slots: slots("u v u v")}, // with slots of a name once more
		{Name: "d"},
	}
}

// handed is all that Pass is handed.
type handed struct {
	Templates []api.Template
	Pattern   api.Pattern
	Fact      api.Fact
	Vars      []api.Binding
}

func (h handed) pass() ([]api.Binding, bool) { return Pass(h.Templates, h.Pattern, h.Fact, h.Vars) }

// hold asks that the fact passes and binds that, or does not; again and again,
// what was told being written over and grown between; and that what was handed
// in, with the room behind it, stays.
func (h handed) hold(t *testing.T, want []api.Binding, passes bool) {
	t.Helper()
	h = room(h)
	before := whole(h)
	kept, _ := h.pass()
	for range 2 {
		l, ok := h.pass()
		if ok != passes || !slices.Equal(l, want) {
			t.Errorf("Pass of %s = %s, %v; want %s, %v", short(before), short(whole(l)), ok, short(whole(want)), passes)
			return
		}
		_ = append(l, api.Binding{Name: "grown", V: one("7")})
		l = l[:cap(l)]
		for i := range l {
			l[i] = api.Binding{Name: "over", V: one("9")}
		}
	}
	if !slices.Equal(kept, want) {
		t.Errorf("Pass of %s: %s, behind other calls %s", short(before), short(whole(want)), short(whole(kept)))
	}
	if after := whole(h); after != before {
		t.Errorf("Pass: handed in was %s, and is %s", short(before), short(after))
	}
}

// holdTexts asks it of texts, of a fact of that number; "no" does not pass.
func holdTexts(t *testing.T, p string, number int, fact, vars, want string) {
	t.Helper()
	h := handed{usual(), pattern(t, p), api.Fact{ID: 3, T: number, S: values(fact)}, bindings(vars)}
	if want == "no" {
		h.hold(t, nil, false)
	} else {
		h.hold(t, bindings(want), true)
	}
}

// P18.1: the chapter's examples.
func TestExamples(t *testing.T) {
	for _, x := range [][4]string{
		{"a(x: ?n, y: > ?n)", "1 2", "", "n 1"},
		{"a(x: ?n, y: ?n)", "1 2", "", "no"},
		{"a(x: ?n)", "1 2", "n 2", "no"},
	} {
		holdTexts(t, x[0], 0, x[1], x[2], x[3])
	}
}

// P18.1: the template is the first one of that name, and the fact has to be of it.
func TestTemplates(t *testing.T) {
	for _, x := range []struct {
		p      string
		number int
		want   string
	}{
		{"a()", 0, ""}, {"b()", 1, ""}, {"c()", 3, ""}, {"d()", 4, ""},
		{"a()", 1, "no"}, {"a()", 2, "no"}, {"b()", 0, "no"}, {"b()", 2, "no"}, {"d()", 5, "no"}, {"c()", 4, "no"},
		{"a()", -1, "no"}, {"a()", 5, "no"}, {"a()", 1 << 40, "no"}, {"a()", -1 << 63, "no"},
		// No template of that name, whatever the fact's number.
		{"e()", 0, "no"}, {"e()", -1, "no"}, {"e()", 5, "no"}, {"e()", 1 << 62, "no"}, {"aa()", 0, "no"},
		// The slots are those of the first template of the name.
		{"a(x: ?n)", 0, "n 1"}, {"a(y: ?n)", 0, "n 2"}, {"a(x: ?n)", 2, "no"}, {"a(w: ?n)", 0, "no"}, {"a(w: ?n)", 2, "no"},
	} {
		holdTexts(t, x.p, x.number, "1 2 3", "", x.want)
		if x.want != "no" {
			x.want = "m 7 " + x.want
		}
		holdTexts(t, x.p, x.number, "1 2 3", "m 7", x.want)
	}
	// No templates, and none whose name is empty but of a pattern of no name.
	for _, ts := range [][]api.Template{nil, {}, {{Name: "b"}}} {
		for _, number := range []int{0, -1, 1} {
			handed{ts, pattern(t, "a()"), api.Fact{T: number}, nil}.hold(t, nil, false)
			handed{ts, api.Pattern{}, api.Fact{T: number}, bindings("n 1")}.hold(t, nil, false)
		}
	}
	nameless := []api.Template{{Name: "a"}, {}, {}}
	handed{nameless, api.Pattern{}, api.Fact{T: 1}, bindings("n 1")}.hold(t, bindings("n 1"), true)
	handed{nameless, api.Pattern{}, api.Fact{T: 2}, bindings("n 1")}.hold(t, nil, false)
}

// P18.1: a slot's place is that of the first one of the name; a fact has to
// have a value there.
func TestSlots(t *testing.T) {
	for _, x := range []struct {
		p           string
		number      int
		fact, wants string
	}{
		// A slot that is not there.
		{"a(w: ?n)", 0, "1 2 3", "no"}, {"a(w: -)", 0, "1 2 3", "no"}, {"a(x: 1, w: -)", 0, "1 2 3", "no"}, {"a(w: -, x: 1)", 0, "1 2 3", "no"}, {"d(x: -)", 4, "1 2 3", "no"}, {"b(y: -)", 1, "1 2 3", "no"},
		// The same name twice in a template.
		{"c(u: ?n, v: ?m)", 3, "1 2 3 4", "n 1 m 2"}, {"c(v: ?n, u: ?m)", 3, "1 2 3 4", "n 2 m 1"}, {"c(u: 3)", 3, "1 2 3 4", "no"}, {"c(v: 4)", 3, "1 2 3 4", "no"}, {"c(v: ?n)", 3, "1", "no"}, {"c(u: ?n)", 3, "1", "n 1"},
		// The same name twice in a pattern.
		{"a(x: ?n, x: ?m)", 0, "1 2 3", "n 1 m 1"}, {"a(x: ?n, x: ?n)", 0, "1 2 3", "n 1"}, {"a(y: ?n, x: ?m, y: > ?m)", 0, "1 2 3", "n 2 m 1"}, {"a(x: > 0, x: < 0)", 0, "1 2 3", "no"}, {"a(x: > 0, x: < 3)", 0, "1 2 3", ""}, {"a(x: 1, x: 1, x: 1, x: 1, x: 1, x: 1, x: 1, x: ?n)", 0, "1 2 3", "n 1"},
		// Too few values, and too many.
		{"a(x: ?n)", 0, "", "no"}, {"a(x: ?n)", 0, "1", "n 1"}, {"a(y: ?n)", 0, "1", "no"}, {"a(x: ?n, y: -)", 0, "1", "no"}, {"a(z: -)", 0, "1 2", "no"}, {"a(z: ?n)", 0, "1 2 3", "n 3"}, {"a(z: ?n)", 0, "1 2 3 4 5", "n 3"}, {"b(x: ?n)", 1, "1 2 3", "n 1"}, {"b(y: ?n)", 1, "1 2 3", "no"},
		{"a()", 0, "", ""}, {"a()", 0, "1 2 3 4 5 6 7 8 9", ""}, {"b()", 1, "1 2", ""}, {"d()", 4, "", ""}, {"d(x: -)", 4, "", "no"},
		// A slot's kind is not asked.
		{"a(x: ?n, y: ?m)", 0, `"u" #u null`, `n "u" m #u`}, {"a(x: \"u\", y: #u, z: null)", 0, `"u" #u null`, ""},
	} {
		holdTexts(t, x.p, x.number, x.fact, "", x.wants)
	}
}

// P18.1: a variable alone is held against what is bound, by data, or bound.
func TestVariablesAlone(t *testing.T) {
	for _, x := range [][4]string{
		// Bound ahead.
		{"a(x: ?n)", "1 2 3", "n 1", "n 1"}, {"a(x: ?n)", "1 2 3", "n 2", "no"}, {"a(x: ?n, y: ?m)", "1 2 3", "m 2 n 1", "m 2 n 1"}, {"a(x: ?n, y: ?m)", "1 2 3", "n 2 m 1", "no"},
		// By a slot before, and by a later one.
		{"a(x: ?n, y: ?n)", "1 1 3", "", "n 1"}, {"a(x: ?n, y: ?n)", "1 2 3", "", "no"}, {"a(x: ?n, y: ?m, z: ?n)", "1 2 1", "", "n 1 m 2"}, {"a(x: ?n, y: ?m, z: ?n)", "1 2 2", "", "no"}, {"a(y: ?n, x: ?m)", "1 2 3", "", "n 2 m 1"},
		// Bound twice ahead: the first one counts, and both stay.
		{"a(x: ?n)", "1 2 3", "n 1 n 2", "n 1 n 2"}, {"a(x: ?n)", "1 2 3", "n 2 n 1", "no"}, {"a(x: ?m, y: ?n)", "1 2 3", "n 2 k 5 n 2", "n 2 k 5 n 2 m 1"},
		// By data, not as compared.
		{"a(x: ?n)", "1 2 3", "n 1.0", "no"}, {"a(x: ?n)", "1.0 2 3", "n 1", "no"}, {"a(x: ?n)", "1.0 2 3", "n 1.0", "n 1.0"}, {"a(x: ?n, y: ?n)", "1 1.0 3", "", "no"}, {"a(x: ?n, y: ?n)", "0 0.0 3", "", "no"},
		{"a(x: ?n)", "null 2 3", "n null", "n null"}, {"a(x: ?n, y: ?n)", "null null 3", "", "n null"}, {"a(x: ?n)", "null 2 3", "n 1", "no"}, {"a(x: ?n)", "1 2 3", "n null", "no"}, {"a(x: ?n)", "null 2 3", "n 0", "no"}, {"a(x: ?n)", `"" 2 3`, "n null", "no"},
		{"a(x: ?n)", `"u" 2 3`, `n "u"`, `n "u"`}, {"a(x: ?n)", `"u" 2 3`, `n "v"`, "no"}, {"a(x: ?n)", "#u 2 3", `n "u"`, "no"}, {"a(x: ?n)", "#u 2 3", "n #u", "n #u"}, {"a(x: ?n)", "true 2 3", "n true", "n true"}, {"a(x: ?n)", "true 2 3", "n 1", "no"}, {"a(x: ?n)", "true 2 3", "n false", "no"}, {"a(x: ?n)", "1 2 3", "n true", "no"},
		{"a(x: ?n)", "9223372036854775807 2 3", "n 9223372036854775806", "no"}, {"a(x: ?n)", "9223372036854775807 2 3", "n 9223372036854775807", "n 9223372036854775807"}, {"a(x: ?n)", "1 2 3", "n 4294967297", "no"},
		// Also values that may not be.
		{"a(x: ?n)", "bad 2 3", "", "n bad"}, {"a(x: ?n, y: ?n)", "worse worse 3", "", "n worse"}, {"a(x: ?n)", "bad 2 3", "n bad", "n bad"}, {"a(x: ?n)", "bad 2 3", "n worse", "no"}, {"a(x: ?n, y: ?n)", "bad worse 3", "", "no"},
		// Other texts of a variable alone.
		{"a(x: = ?n)", "1 2 3", "", "n 1"}, {"a(x: (?n))", "1 2 3", "", "n 1"}, {"a(x: = ((?n)), y: ?n)", "1 1.0 3", "", "no"},
		// Names that are like others.
		{"a(x: ?n, y: ?nn)", "1 2 3", "n1 4", "n1 4 n 1 nn 2"}, {"a(x: ?x, y: ?a)", "1 2 3", "y 4", "y 4 x 1 a 2"},
	} {
		holdTexts(t, x[0], 0, x[1], x[2], x[3])
	}
}

// P18.1: by data, each part of a value counts, also where it has no meaning.
func TestEachPartOfValues(t *testing.T) {
	p := pattern(t, "b(x: ?n)")
	for _, v := range []api.Value{{}, {Kind: 1}, {N: 1}, {S: "u"}, {Kind: 3, S: "u"}, {Kind: 3, N: 1, S: "u"}, {Kind: 1, N: 1, S: "u"}} {
		for _, w := range []api.Value{{}, {Kind: 1}, {N: 1}, {S: "u"}, {Kind: 3, S: "u"}, {Kind: 3, N: 1, S: "u"}, {Kind: 1, N: 1, S: "u"}} {
			vars := []api.Binding{{Name: "n", V: w}}
			var want []api.Binding
			if v == w {
				want = vars
			}
			handed{usual(), p, api.Fact{T: 1, S: []api.Value{v}}, vars}.hold(t, want, v == w)
		}
	}
}

// P18.1: each kind of test of layer 11 is asked of the fact's value, under what is bound.
func TestOtherTests(t *testing.T) {
	for _, x := range [][4]string{
		{"a(x: -)", "1 2 3", "", ""}, {"a(x: -)", "null 2 3", "", ""}, {"a(x: -)", "bad 2 3", "", ""},
		{"a(x: 1)", "1 2 3", "", ""}, {"a(x: 1)", "2 2 3", "", "no"}, {"a(x: 1)", "1.0 2 3", "", ""}, {"a(x: 1)", "null 2 3", "", "no"}, {"a(x: 1)", `"u" 2 3`, "", "no"}, {"a(x: null)", "null 2 3", "", ""}, {"a(x: null)", "1 2 3", "", "no"}, {"a(x: 1)", "bad 2 3", "", "no"},
		{"a(x: < 2)", "1 2 3", "", ""}, {"a(x: < 2)", "2 2 3", "", "no"}, {"a(x: <= 2)", "2 2 3", "", ""}, {"a(x: <= 2)", "3 2 3", "", "no"}, {"a(x: > 2)", "3 2 3", "", ""}, {"a(x: > 2)", "2 2 3", "", "no"}, {"a(x: >= 2)", "2 2 3", "", ""}, {"a(x: >= 2)", "1 2 3", "", "no"},
		{"a(x: [1 .. 3])", "1 2 3", "", ""}, {"a(x: (1 .. 3])", "1 2 3", "", "no"}, {"a(x: [1 .. 3])", "3 2 3", "", ""}, {"a(x: [1 .. 3))", "3 2 3", "", "no"},
		{"a(x: not(1))", "1 2 3", "", "no"}, {"a(x: not(1))", "2 2 3", "", ""}, {"a(x: not(1))", "null 2 3", "", "no"}, {"a(x: 1, 2)", "2 2 3", "", ""}, {"a(x: 1, 2)", "3 2 3", "", "no"}, {"a(x: not(1, 2))", "3 2 3", "", ""},
		{"a(x: ?)", "1 2 3", "", ""}, {"a(x: ? * 2)", "0 2 3", "", ""}, {"a(x: ? + 1)", "1 2 3", "", "no"}, {"a(x: 1 / 0)", "1 2 3", "", "no"}, {"a(x: 1, 1 / 0)", "1 2 3", "", ""}, {"a(x: 2, 1 / 0)", "1 2 3", "", "no"},
		// Variables that are not alone: bound ahead, before, behind, and not at all.
		{"a(x: > ?n)", "2 2 3", "n 1", "n 1"}, {"a(x: > ?n)", "1 2 3", "n 1", "no"}, {"a(x: = ?n + 0)", "1.0 2 3", "n 1", "n 1"}, {"a(x: > ?n)", "2 2 3", "n null", "no"}, {"a(x: > ?n)", "2 2 3", "n bad", "no"}, {"a(x: > ?n)", "2 2 3", `n "u"`, "no"},
		{"a(x: > ?n)", "2 2 3", "n 1 n 9", "n 1 n 9"}, {"a(x: > ?n)", "2 2 3", "n 9 n 1", "no"},
		{"a(x: ?n, y: > ?n)", "1 2 3", "", "n 1"}, {"a(x: ?n, y: > ?n)", "2 2 3", "", "no"}, {"a(x: ?n, y: ?m, z: [?n .. ?m])", "1 4 3", "", "n 1 m 4"}, {"a(x: ?n, y: ?m, z: [?n .. ?m])", "1 2 3", "", "no"},
		{"a(y: > ?n, x: ?n)", "1 2 3", "", "no"}, {"a(y: > ?n, x: ?n)", "1 2 3", "n 1", "n 1"}, {"a(x: > ?z)", "1 2 3", "n 1", "no"}, {"a(x: > ?z)", "1 2 3", "", "no"}, {"a(x: 1, ?z)", "1 2 3", "", ""}, {"a(x: 2, ?z)", "1 2 3", "", "no"}, {"a(x: not(?z))", "1 2 3", "", "no"},
		// A list of two is no variable alone: it binds nothing, and compares.
		{"a(x: ?n, 1)", "1 2 3", "", "no"}, {"a(x: ?n, 1)", "1 2 3", "n 1.0", "n 1.0"}, {"a(x: ?n, ?n)", "1 2 3", "", "no"}, {"a(x: not(not(?n)))", "1 2 3", "n 1.0", "n 1.0"}, {"a(x: not(?n))", "1 2 3", "n 2", "n 2"}, {"a(x: -, y: > 1, ?n, z: ?n)", "1 2 3", "", "n 3"}, {"a(x: ?n + 0)", "1 2 3", "", "no"}, {"a(x: -?n)", "1 2 3", "n -1", "n -1"},
		// What is bound: those ahead, then those of the slots, in their order.
		{"a(z: ?k, y: ?m, x: ?n)", "1 2 3", "", "k 3 m 2 n 1"}, {"a(z: ?k, y: ?m, x: ?n)", "1 2 3", "z 9 m 2 a 8", "z 9 m 2 a 8 k 3 n 1"}, {"a(x: ?n, y: ?m, z: 4)", "1 2 3", "", "no"}, {"a(z: 4, x: ?n)", "1 2 3", "k 1", "no"}, {"a()", "1 2 3", "k 1 k 2", "k 1 k 2"},
	} {
		holdTexts(t, x[0], 0, x[1], x[2], x[3])
	}
}

// P18.1: neither places nor the fact's name nor its id are asked.
func TestNamesOfFacts(t *testing.T) {
	for _, p := range []string{"a(x: ?n, y: > ?n)", "f: a(x: ?n, y: > ?n)", "n: a(\n x: ?n,\n\n y: > ?n)"} {
		for _, id := range []int{0, 1, -1, 1 << 62} {
			h := handed{usual(), pattern(t, p), api.Fact{ID: id, S: values("1 2 3")}, nil}
			h.hold(t, bindings("n 1"), true)
			h.Fact.S = values("2 2 3")
			h.hold(t, nil, false)
		}
	}
}

// P18.1: many slots, templates, and bindings.
func TestMany(t *testing.T) {
	h := handed{Templates: make([]api.Template, 3000)}
	h.Templates = append(h.Templates, api.Template{Name: "a"}, api.Template{Name: "a"})
	h.Pattern.T, h.Fact.T = "a", 3000
	var want []api.Binding
	for i := range 600 {
		name := strings.Repeat("x", i)
		h.Templates[3000].Slots = append(h.Templates[3000].Slots, api.Slot{Name: name})
		h.Pattern.Slots = append(h.Pattern.Slots, api.SlotTest{Slot: name, Test: api.Tests{{Op: api.TestEq, A: api.Expr{{Op: api.OpVar, Name: name}}}}})
		h.Fact.S = append(h.Fact.S, one("1"))
		want = append(want, api.Binding{Name: name, V: one("1")})
	}
	h.hold(t, want, true)
	h.Vars = append(slices.Clone(want), slices.Repeat(bindings("x 2"), 600)...)
	h.hold(t, h.Vars, true)
	slices.Reverse(h.Vars)
	h.hold(t, nil, false)
	h.Vars, h.Fact.S[599] = nil, one("1.0")
	want[599].V = one("1.0")
	h.hold(t, want, true)
	h.Fact.S = h.Fact.S[:599]
	h.hold(t, nil, false)
}
