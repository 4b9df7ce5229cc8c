package template

import (
	"fmt"
	"math"
	"math/rand"
	"reflect"
	"slices"
	"strings"
	"testing"

	"witan/api"
	"witan/value"
)

func slot(name string, kind uint8) api.Slot { return api.Slot{Name: name, Kind: kind} }

func made(name string, slots ...api.Slot) api.Template {
	return api.Template{Name: name, Slots: slots}
}

func person() api.Template { return made("person", slot("age", api.Int), slot("name", api.Str)) }

// many tells n templates, and manySlots n slots, of names of their own.
func many(n int) []api.Template {
	var l []api.Template
	for i := range n {
		l = append(l, made(fmt.Sprintf("t%d", i), slot("x", api.Int)))
	}
	return l
}

func manySlots(n int) []api.Slot {
	var l []api.Slot
	for i := range n {
		l = append(l, slot(fmt.Sprintf("s%d", i), uint8(1+i%5)))
	}
	return l
}

func copied(l []api.Template) []api.Template {
	l = slices.Clone(l)
	for i := range l {
		l[i].Slots = slices.Clone(l[i].Slots)
	}
	return l
}

func null() api.Value { return api.Value{} }

func whole(n int64) api.Value { return api.Value{Kind: api.Int, N: n} }

func dec(n int64) api.Value { return api.Value{Kind: api.Dec, N: n} }

func text(s string) api.Value { return api.Value{Kind: api.Str, S: s} }

func truth(n int64) api.Value { return api.Value{Kind: api.Bool, N: n} }

func sym(s string) api.Value { return api.Value{Kind: api.Sym, S: s} }

// P4.1: May

func TestMay(t *testing.T) {
	long := strings.Repeat("a", api.MaxName)
	for i, l := range [][]api.Template{
		nil, {}, {person()}, {person(), made("b", slot("x", api.Sym))},
		many(1), many(2), many(15), many(16),
		{made("a", manySlots(1)...)}, {made("a", manySlots(7)...)}, {made("a", manySlots(8)...)},
		{made(long, slot(long, api.Int))},
		{made("a", slot("x", api.Int)), made("a1", slot("x", api.Int))},
		// a template, a slot and another template's slot may have the same name
		{made("a", slot("a", api.Int)), made("b", slot("a", api.Dec), slot("b", api.Dec))},
		{made("rules", slot("ruler", api.Bool))}, {made("int", slot("str", api.Str), slot("sym", api.Sym))},
	} {
		if !May(l) {
			t.Errorf("%d: May(%v) = false", i, l)
		}
	}
	full := many(16)
	for i := range full {
		full[i].Slots = manySlots(8)
	}
	if !May(full) {
		t.Error("as many as there may be: false")
	}
}

func TestMayOfKinds(t *testing.T) {
	for k := 0; k < 256; k++ {
		want := 1 <= k && k <= 5
		for i, l := range [][]api.Template{
			{made("a", slot("x", uint8(k)))},
			{made("a", slot("x", api.Int), slot("y", uint8(k)))},
			{person(), made("a", slot("x", uint8(k)), slot("y", api.Sym))},
		} {
			if got := May(l); got != want {
				t.Errorf("%d: May with a slot of kind %d = %t", i, k, got)
			}
		}
	}
}

func TestMayOfCounts(t *testing.T) {
	for n := range 40 {
		if got := May(many(n)); got != (n <= 16) {
			t.Errorf("May of %d templates = %t", n, got)
		}
		if got := May([]api.Template{person(), made("a", manySlots(n)...)}); got != (1 <= n && n <= 8) {
			t.Errorf("May with %d slots = %t", n, got)
		}
	}
	if May(many(100000)) || May([]api.Template{made("a", manySlots(100000)...)}) {
		t.Error("May of a great many = true")
	}
}

// badNames are no names, the words that are kept among them.
func badNames() []string {
	return append(kept(), "", " ", "A", "1", "1a", "a b", "a_b", "Person", "é", "a\x00", "abcdefghijklm", strings.Repeat("a", 1000))
}

func TestMayOfNames(t *testing.T) {
	for _, s := range badNames() {
		for i, l := range [][]api.Template{
			{made(s, slot("x", api.Int))},
			{person(), made(s, slot("x", api.Int))},
			{made(s, slot("x", api.Int)), person()},
			{made("a", slot(s, api.Int))},
			{person(), made("a", slot("x", api.Int), slot(s, api.Int))},
			{made("a", slot(s, api.Int), slot("x", api.Int)), person()},
		} {
			if May(l) {
				t.Errorf("%d: May with the name %.40q = true", i, s)
			}
		}
	}
}

func TestMayOfTheSameNames(t *testing.T) {
	for n := 2; n <= 16; n++ {
		for i := range n {
			for j := range i {
				l := many(n)
				l[i].Name = l[j].Name
				l[i].Slots = manySlots(3)
				if May(l) {
					t.Errorf("of %d templates those at %d and %d have one name: true", n, j, i)
				}
			}
		}
	}
	for n := 2; n <= 8; n++ {
		for i := range n {
			for j := range i {
				slots := manySlots(n)
				slots[i].Name = slots[j].Name
				if May([]api.Template{person(), made("a", slots...)}) {
					t.Errorf("of %d slots those at %d and %d have one name: true", n, j, i)
				}
			}
		}
	}
}

// P4.1: Find, Slot

func TestFind(t *testing.T) {
	l := []api.Template{person(), made("b"), made("c"), made("b", slot("x", api.Int)), made(""), made("rule"), made("", slot("x", api.Int)), made("C D")}
	for name, want := range map[string]int{
		"person": 0, "b": 1, "c": 2, "": 4, "rule": 5, "C D": 7,
		"a": -1, "B": -1, "perso": -1, "persons": -1, "Person": -1, "person ": -1, "x": -1, "age": -1, "b\x00": -1, "C": -1,
	} {
		if got := Find(l, name); got != want {
			t.Errorf("Find(%q) = %d, want %d", name, got, want)
		}
		if Find(nil, name) != -1 || Find([]api.Template{}, name) != -1 {
			t.Errorf("Find(%q) of none is no -1", name)
		}
	}
	great := many(1000)
	for i, x := range great {
		if got := Find(great, x.Name); got != i {
			t.Errorf("Find(%q) = %d, want %d", x.Name, got, i)
		}
	}
}

func TestSlot(t *testing.T) {
	x := made("a", slot("age", api.Int), slot("name", api.Str), slot("name", api.Int), slot("rule", 9), slot("", 0), slot("", api.Int), slot("x y", 255))
	for name, want := range map[string]int{
		"age": 0, "name": 1, "rule": 3, "": 4, "x y": 6,
		"a": -1, "Age": -1, "ag": -1, "ages": -1, " age": -1, "x": -1, "y": -1,
	} {
		if got := Slot(x, name); got != want {
			t.Errorf("Slot(%q) = %d, want %d", name, got, want)
		}
		if Slot(api.Template{}, name) != -1 || Slot(made(name), name) != -1 {
			t.Errorf("Slot(%q) of no slots is no -1", name)
		}
	}
	great := manySlots(1000)
	for i, s := range great {
		if got := Slot(made("a", great...), s.Name); got != i {
			t.Errorf("Slot(%q) = %d, want %d", s.Name, got, i)
		}
	}
}

// P4.2

// values are of each kind, those that may not be among them.
func values() []api.Value {
	return []api.Value{
		null(), whole(0), whole(1), whole(math.MinInt64), dec(0), dec(10000), dec(math.MaxInt64),
		text(""), text("a"), text(strings.Repeat("x", 200)), truth(0), truth(1), sym("a"), sym("rule"), sym("abcdefghijkl"),
		{N: 1}, {S: "a"}, {Kind: api.Int, S: "a"}, {Kind: api.Dec, N: 1, S: "a"}, text("\n"), text("é"), {Kind: api.Str, N: 1, S: "a"}, text(strings.Repeat("x", 201)),
		truth(2), truth(-1), {Kind: api.Bool, S: "a"}, sym(""), sym("A"), sym("abcdefghijklm"), {Kind: api.Sym, N: 1, S: "a"},
		{Kind: 6}, {Kind: 6, N: 1}, {Kind: 7, S: "a"}, {Kind: 128}, {Kind: 255}, {Kind: 255, N: 1, S: "a"},
	}
}

func everyKind() api.Template {
	return made("every", slot("a", api.Int), slot("b", api.Dec), slot("c", api.Str), slot("d", api.Bool), slot("e", api.Sym))
}

func TestFits(t *testing.T) {
	l := []api.Template{person(), everyKind(), made("none")}
	good := []api.Value{whole(3), dec(4), text("x"), truth(1), sym("y")}
	for i, x := range []struct {
		t    int
		s    []api.Value
		want api.Errno
	}{
		{0, []api.Value{whole(1), text("a")}, api.OK},
		{0, []api.Value{text("a"), whole(1)}, api.ErrKind},
		{0, []api.Value{null(), null()}, api.OK},
		{0, []api.Value{null(), text("a")}, api.OK},
		{0, []api.Value{whole(1), null()}, api.OK},
		{0, []api.Value{dec(10000), text("a")}, api.ErrKind},
		{0, []api.Value{whole(1), sym("a")}, api.ErrKind},
		{0, []api.Value{whole(1), {Kind: api.Null, S: "a"}}, api.ErrKind},
		{0, []api.Value{whole(1), text("\n")}, api.ErrKind},
		{0, []api.Value{whole(1)}, api.ErrMany},
		{0, []api.Value{whole(1), text("a"), null()}, api.ErrMany},
		{0, nil, api.ErrMany},
		{0, []api.Value{}, api.ErrMany},
		{1, good, api.OK},
		{1, make([]api.Value, 5), api.OK},
		{2, nil, api.OK},
		{2, []api.Value{}, api.OK},
		{2, []api.Value{null()}, api.ErrMany},
		// what is named first is told
		{3, []api.Value{whole(1)}, api.ErrNone},
		{-1, []api.Value{text("\n")}, api.ErrNone},
		{0, []api.Value{text("\n")}, api.ErrMany},
		{0, []api.Value{text("a"), whole(1), {Kind: 9}}, api.ErrMany},
		{2, []api.Value{{Kind: 255}}, api.ErrMany},
	} {
		if got := Fits(l, x.t, x.s); got != x.want {
			t.Errorf("%d: Fits(%d, %#v) = %d, want %d", i, x.t, x.s, got, x.want)
		}
	}
}

func TestFitsOfNoPlace(t *testing.T) {
	l := []api.Template{person(), person()}
	s := []api.Value{whole(1), text("a")}
	for _, at := range []int{-1, -2, 2, 3, math.MinInt, math.MaxInt, math.MinInt32, math.MaxInt32 + 1, 1 << 32, 256} {
		for _, x := range [][]api.Value{s, nil, {{Kind: 9}}} {
			if got := Fits(l, at, x); got != api.ErrNone {
				t.Errorf("Fits(%d, %v) = %d, want %d", at, x, got, api.ErrNone)
			}
		}
	}
	for _, at := range []int{-1, 0, 1} {
		if Fits(nil, at, s) != api.ErrNone || Fits([]api.Template{}, at, nil) != api.ErrNone {
			t.Errorf("Fits(%d) of no templates is no ErrNone", at)
		}
	}
	if Fits(l, 0, s) != api.OK || Fits(l, 1, s) != api.OK {
		t.Error("Fits of places that are there is no OK")
	}
}

// Each value in a slot of each kind, those that no slot may be of among them, at each place of a fact.
func TestFitsOfEachKind(t *testing.T) {
	for _, kind := range []uint8{0, 1, 2, 3, 4, 5, 6, 7, 128, 255} {
		for _, v := range values() {
			want := api.ErrKind
			if value.May(v) && (v == null() || v.Kind == kind) {
				want = api.OK
			}
			for n := 1; n <= 8; n++ {
				for at := range n {
					slots, s := manySlots(n), make([]api.Value, n)
					slots[at].Kind, s[at] = kind, v
					if got := Fits([]api.Template{person(), made("a", slots...)}, 1, s); got != want {
						t.Fatalf("%#v in a slot of kind %d, at %d of %d: %d, want %d", v, kind, at, n, got, want)
					}
				}
			}
		}
	}
}

// Templates are not asked whether they may be: names and counts do not matter.
func TestFitsOfAnyTemplates(t *testing.T) {
	s := []api.Value{whole(1), whole(2)}
	twice := made("Rule", slot("x", api.Int), slot("x", api.Int))
	l := append(many(20), twice, twice, made("", slot("", api.Int), slot("if", api.Int)), made("wide", manySlots(9)...))
	if May(l) {
		t.Fatal("these templates may not be")
	}
	for at := 20; at < 23; at++ {
		if got := Fits(l, at, s); got != api.OK {
			t.Errorf("Fits(%d) = %d, want %d", at, got, api.OK)
		}
	}
	if got := Fits(l, 23, make([]api.Value, 9)); got != api.OK {
		t.Errorf("of nine slots: %d, want %d", got, api.OK)
	}
	if got := Fits(l, 23, make([]api.Value, 8)); got != api.ErrMany {
		t.Errorf("of nine slots, with eight values: %d, want %d", got, api.ErrMany)
	}
}

// 'What follows' of the chapter: what fits stays so, whatever templates stand behind.
func TestWhatFitsStaysSo(t *testing.T) {
	r := rand.New(rand.NewSource(44))
	for range 5000 {
		l, s := someTemplates(r), someValues(r)
		more := append(copied(l), someTemplates(r)...)
		for at := range l {
			if got, want := Fits(more, at, s), Fits(l, at, s); got != want {
				t.Fatalf("Fits(%v, %d, %v) = %d, but %d ahead of others", l, at, s, want, got)
			}
		}
	}
}

// some are templates and values of which many may be, and some may not.

func someNames(r *rand.Rand) string {
	l := []string{"a", "b", "c", "d", "e", "f", "g", "h", "i", "j", "abcdefghijkl", "in", "A", "", "abcdefghijklm"}
	if r.Intn(8) > 0 {
		return l[r.Intn(11)]
	}
	return l[r.Intn(len(l))]
}

func someTemplates(r *rand.Rand) []api.Template {
	var l []api.Template
	for range r.Intn(4) {
		x := made(someNames(r))
		for range r.Intn(4) {
			x.Slots = append(x.Slots, slot(someNames(r), uint8(1+r.Intn(5))))
		}
		if r.Intn(20) == 0 {
			x.Slots = append(x.Slots, slot("k", uint8(r.Intn(8))))
		}
		l = append(l, x)
	}
	return l
}

func someValues(r *rand.Rand) []api.Value {
	all := values()
	s := make([]api.Value, r.Intn(4))
	for i := range s {
		s[i] = all[r.Intn(len(all))]
		if r.Intn(2) == 0 {
			s[i] = all[r.Intn(15)]
		}
	}
	return s
}

// modelMay counts names instead of looking for them.
func modelMay(l []api.Template) bool {
	names, ok := map[string]int{}, len(l) <= 16
	for _, x := range l {
		names[x.Name]++
		slots := map[string]int{}
		for _, s := range x.Slots {
			slots[s.Name]++
			ok = ok && modelName(s.Name) && s.Kind >= 1 && s.Kind <= 5
		}
		ok = ok && modelName(x.Name) && len(x.Slots) >= 1 && len(x.Slots) <= 8 && len(slots) == len(x.Slots)
	}
	return ok && len(names) == len(l)
}

func modelFits(l []api.Template, t int, s []api.Value) api.Errno {
	if t < 0 || t > len(l)-1 {
		return api.ErrNone
	}
	if len(s) != len(l[t].Slots) {
		return api.ErrMany
	}
	e := api.OK
	for i := range s {
		if !value.May(s[i]) || s[i].Kind != 0 && s[i].Kind != l[t].Slots[i].Kind {
			e = api.ErrKind
		}
	}
	return e
}

// P4.1, P4.2: all calls hold against the models, and change nothing of what they are handed.
func TestAgainstModel(t *testing.T) {
	r := rand.New(rand.NewSource(404))
	answers := map[string]int{}
	for range 30000 {
		l, s := someTemplates(r), someValues(r)
		before, values := copied(l), slices.Clone(s)
		may := May(l)
		answers[fmt.Sprint("may ", may)]++
		if may != modelMay(l) {
			t.Fatalf("May(%v) = %t", l, may)
		}
		for at := -1; at <= len(l); at++ {
			got := Fits(l, at, s)
			answers[fmt.Sprint("fits ", got)]++
			if got != modelFits(l, at, s) {
				t.Fatalf("Fits(%v, %d, %v) = %d", l, at, s, got)
			}
		}
		holdPlaces(t, l, someNames(r))
		if !reflect.DeepEqual(l, before) || !slices.Equal(s, values) {
			t.Fatalf("%v, %v were changed to %v, %v", before, values, l, s)
		}
	}
	for _, x := range []string{"may true", "may false", "fits 0", "fits 5", "fits 8", "fits 14"} {
		if answers[x] < 500 {
			t.Errorf("%q was met %d times only", x, answers[x])
		}
	}
}

// holdPlaces goes from the end to the front, so that the first one is kept.
func holdPlaces(t *testing.T, l []api.Template, name string) {
	t.Helper()
	want := -1
	for i := len(l) - 1; i >= 0; i-- {
		if l[i].Name == name {
			want = i
		}
		first := -1
		for j := len(l[i].Slots) - 1; j >= 0; j-- {
			if l[i].Slots[j].Name == name {
				first = j
			}
		}
		if got := Slot(l[i], name); got != first {
			t.Fatalf("Slot(%v, %q) = %d, want %d", l[i], name, got, first)
		}
	}
	if got := Find(l, name); got != want {
		t.Fatalf("Find(%v, %q) = %d, want %d", l, name, got, want)
	}
}
