package passes

import (
	"math/rand"
	"reflect"
	"testing"

	"witan/api"
)

// holdAlike asks it both ways; what is handed in stays.
func holdAlike(t *testing.T, a, b api.Pattern, want bool) {
	t.Helper()
	a, b = room(a), room(b)
	first, second := whole(a), whole(b)
	if Alike(a, b) != want || Alike(b, a) != want {
		t.Errorf("Alike of %s and %s is not %v", short(first), short(second), want)
	}
	if !Alike(a, a) || !Alike(b, b) {
		t.Errorf("%s or %s: not alike with itself", short(first), short(second))
	}
	if whole(a) != first || whole(b) != second {
		t.Errorf("Alike: handed in was %s, %s, and is %s, %s", short(first), short(second), short(whole(a)), short(whole(b)))
	}
}

// alike are texts of patterns, by which are alike.
func alike() [][]string {
	return [][]string{
		{"a()", "f: a()", "g : a ( )", "\n\n a\n(\n)"},
		{"b()"}, {"aa()"},
		{"a(x: 1)", "f: a(x: 1)", "a(x: = 1)", "a(x:((1)))", "a(x: ; a remark\n 1)"},
		{"a(y: 1)"}, {"b(x: 1)"}, {"a(x: 2)"}, {"a(x: 1.0)"}, {"a(x: -1)"}, {"a(x: - 2)"}, {"a(x: -)"}, {"a(x: 1, 1)"}, {"a(x: \"1\")"}, {"a(x: #x)"}, {"a(x: \"x\")"}, {"a(x: null)"}, {"a(x: true)"}, {"a(x: false)"}, {"a(x: ?)"},
		{"a(x: < 1)"}, {"a(x: <= 1)"}, {"a(x: > 1)"}, {"a(x: >= 1)"},
		{"a(x: [1 .. 2])", "a( x : [ 1..2 ] )"}, {"a(x: (1 .. 2])"}, {"a(x: [1 .. 2))"}, {"a(x: (1 .. 2))"}, {"a(x: [2 .. 1])"}, {"a(x: [1 .. 1])"},
		{"a(x: not(1))"}, {"a(x: not(not(1)))"}, {"a(x: not(1), 1)"}, {"a(x: 1, not(1))"}, {"a(x: not(1, 1))"},
		{"a(x: 1, 2)"}, {"a(x: 2, 1)"}, {"a(x: 1, 2, 2)"},
		{"a(x: ?n)", "a(x: = ?n)", "a(x: (?n))", "n: a(x: ?n)"}, {"a(x: ?m)"}, {"a(x: > ?n)"}, {"a(x: > ?m)"}, {"a(x: ?n, ?n)"},
		{"a(x: 1, x: 1)"}, {"a(x: 1, y: 1)", "f: a(x: 1,\n y: 1)"}, {"a(y: 1, x: 1)"}, {"a(y: 1, y: 1)"}, {"a(x: 1, y: 2)"}, {"a(x: 2, y: 1)"}, {"a(x: 1, y: 1, z: 1)"}, {"a(x: 1, y: 1, x: 1)"}, {"b(x: 1, y: 1)"},
		{"a(x: ?n + 1)", "a(x: ((?n)+(1)))"}, {"a(x: 1 + ?n)"}, {"a(x: ?n - 1)"}, {"a(x: ?n + 2)"}, {"a(x: ?m + 1)"}, {"a(x: (?n + 1) * 2)"}, {"a(x: ?n + 1 * 2)"}, {"a(x: min(1, 2))"}, {"a(x: max(1, 2))"}, {"a(x: min(1, 2, 2))"},
	}
}

// P18.2: patterns of texts, each with each other one.
func TestAlike(t *testing.T) {
	var texts []string
	var of []int
	for i, l := range alike() {
		for _, s := range l {
			texts, of = append(texts, s), append(of, i)
		}
	}
	for i, a := range texts {
		for k, b := range texts {
			holdAlike(t, pattern(t, a), pattern(t, b), of[i] == of[k])
		}
	}
}

// P18.2: each part of a pattern changed alone: places and the fact's name
// alone do not count.
func TestAlikeOfEachPart(t *testing.T) {
	p := pattern(t, "f: a(x: ?n, y: not(1, [?n + 2 .. ?m)), = null, z: (min(1, ?) .. 4.5], y: -)")
	left, others := 0, 0
	all := partsOf(&p)
	places := isPlace(all)
	for i, v := range all {
		free := places[i] || v.Addr().Pointer() == reflect.ValueOf(&p.Name).Pointer() && v.Kind() == reflect.String
		for k := range changes(v) {
			c := copyOf(p)
			changes(partsOf(&c)[i])[k]()
			holdAlike(t, p, c, free)
			if free {
				left++
			} else {
				others++
			}
		}
	}
	if left < 100 || others < 300 {
		t.Errorf("only %d changes that do not count, %d that do", left, others)
	}
}

// P18.2: a list that is not there and an empty one are one; an empty part is one.
func TestAlikeOfEmptyLists(t *testing.T) {
	slot := func(x api.Tests) api.Pattern { return api.Pattern{Slots: []api.SlotTest{{Test: x}}} }
	holdAlike(t, api.Pattern{}, api.Pattern{Slots: []api.SlotTest{}}, true)
	holdAlike(t, slot(nil), slot(api.Tests{}), true)
	holdAlike(t, slot(api.Tests{{}}), slot(api.Tests{{A: api.Expr{}, B: api.Expr{}, Kids: []int{}}}), true)
	holdAlike(t, slot(api.Tests{{A: api.Expr{{}}}}), slot(api.Tests{{A: api.Expr{{Kids: []int{}}}}}), true)
	holdAlike(t, api.Pattern{}, slot(nil), false)
	holdAlike(t, slot(nil), slot(api.Tests{{}}), false)
	holdAlike(t, slot(api.Tests{{}}), slot(api.Tests{{A: api.Expr{{}}}}), false)
	holdAlike(t, slot(api.Tests{{A: api.Expr{{}}}}), slot(api.Tests{{B: api.Expr{{}}}}), false)
}

// P1, P18.2: anything at all, and a copy of which a part or two are changed.
func TestAlikeOfAnything(t *testing.T) {
	r := rand.New(rand.NewSource(4))
	counts := map[bool]int{}
	for range 2000 {
		a, other := anything[api.Pattern](r), anything[api.Pattern](r)
		b := copyOf(a)
		for range r.Intn(3) {
			all := partsOf(&b)
			l := changes(all[r.Intn(len(all))])
			if len(l) > 0 {
				l[r.Intn(len(l))]()
			}
		}
		want := plain(a) == plain(b)
		counts[want]++
		holdAlike(t, a, b, want)
		holdAlike(t, a, other, plain(a) == plain(other))
	}
	if counts[true] < 500 || counts[false] < 500 {
		t.Errorf("only %v", counts)
	}
}

// plain writes all that counts of a pattern.
func plain(p api.Pattern) string {
	c := copyOf(p)
	for _, v := range partsOf(&c) {
		if v.Type() == reflect.TypeFor[api.Place]() {
			v.SetZero()
		}
	}
	c.Name = ""
	return whole(copyOf(c))
}
