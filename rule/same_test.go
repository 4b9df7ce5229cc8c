package rule

import (
	"math/rand"
	"reflect"
	"strings"
	"testing"

	"witan/api"
)

// full is a program with each part that a program may have, lists of two or more.
const full = `template a x:int y:sym template b z:dec w:bool
rule r -5 when p: a(x: > 1, y: not(2, [3 .. 4))) a(x: ?n, y: (?n + 1 .. 5)) not b(z: 1) exists b(w: true, z: -)
not (a(x: 1, y: #s) b(z: ?n)) test ?n + 1 < length("u")
then assert a(x: 1, y: #s) logical b(z: 1.5) modify p(x: min(1, ?n), y: null) retract p halt end
rule q 7 when a() then halt end`

func mustParse(t *testing.T, s string) api.Program {
	t.Helper()
	p, at, e := Parse(s)
	if e != api.OK {
		t.Fatalf("Parse(%.300q): %v, %d", s, at, e)
	}
	return p
}

// parts tells all that a value is made of, itself first: whatever can be set.
func parts(v reflect.Value) []reflect.Value {
	l := []reflect.Value{v}
	switch v.Kind() {
	case reflect.Struct:
		for i := range v.NumField() {
			l = append(l, parts(v.Field(i))...)
		}
	case reflect.Slice:
		for i := range v.Len() {
			l = append(l, parts(v.Index(i))...)
		}
	}
	return l
}

// partsOf tells those of a program, each time in the same order.
func partsOf(p *api.Program) []reflect.Value { return parts(reflect.ValueOf(p).Elem()) }

// isOfPlace tells whether a part says where something stands, and no more.
func isOfPlace(v reflect.Value) bool {
	switch v.Interface().(type) {
	case api.Place, []api.Place:
		return true
	}
	return false
}

// changes tells by what one part alone is made another one.
func changes(v reflect.Value) []func() {
	switch v.Kind() {
	case reflect.String:
		return []func(){func() { v.SetString(v.String() + "x") }, func() { v.SetString("no") }}
	case reflect.Int, reflect.Int64:
		return []func(){func() { v.SetInt(v.Int() + 1) }, func() { v.SetInt(v.Int() - 1<<40) }}
	case reflect.Uint8:
		return []func(){func() { v.SetUint(v.Uint() + 1) }, func() { v.SetUint(255 - v.Uint()) }}
	case reflect.Bool:
		return []func(){func() { v.SetBool(!v.Bool()) }}
	case reflect.Slice:
		l := []func(){func() { v.Set(reflect.Append(v, reflect.Zero(v.Type().Elem()))) }}
		if v.Len() > 0 {
			l = append(l, func() { v.Set(v.Slice(0, v.Len()-1)) }, func() { v.Set(v.Slice(1, v.Len())) }, func() { v.Set(reflect.Zero(v.Type())) },
				func() { v.Set(reflect.Append(v, v.Index(0))) })
		}
		return l
	}
	return nil
}

// ofPlaces tells of each part whether it is a place, or in one.
func ofPlaces(l []reflect.Value) []bool {
	is := make([]bool, len(l))
	for i, v := range l {
		if isOfPlace(v) {
			for j := range parts(v) {
				is[i+j] = true
			}
		}
	}
	return is
}

// P12.2: programs that are the same but for one part are not the same,
// whichever part it is; but for places they are.
func TestSameOfEachPart(t *testing.T) {
	want := mustParse(t, full)
	all := partsOf(&want)
	var places, others int
	for i, isPlace := range ofPlaces(all) {
		for k := range changes(all[i]) {
			p := mustParse(t, full)
			if !Same(p, want) || !Same(want, p) {
				t.Fatal("a program is not the same as itself")
			}
			v := partsOf(&p)[i]
			changes(v)[k]()
			if Same(p, want) != isPlace || Same(want, p) != isPlace {
				t.Errorf("part %d, of %v, change %d: the same: %v", i, v.Type(), k, !isPlace)
			}
			if isPlace {
				places++
			} else {
				others++
			}
		}
	}
	if places < 100 || others < 500 {
		t.Errorf("only %d changes of places, %d others", places, others)
	}
}

// P12.2: the order of each list counts.
func TestSameOfOrder(t *testing.T) {
	want := mustParse(t, full)
	swapped := 0
	for i := range partsOf(&want) {
		p := mustParse(t, full)
		v := partsOf(&p)[i]
		if v.Kind() != reflect.Slice || v.Len() < 2 || isOfPlace(v) {
			continue
		}
		first, second := reflect.New(v.Type().Elem()).Elem(), reflect.New(v.Type().Elem()).Elem()
		first.Set(v.Index(0))
		second.Set(v.Index(1))
		v.Index(0).Set(second)
		v.Index(1).Set(first)
		swapped++
		if Same(p, want) || Same(want, p) {
			t.Errorf("part %d, of %v: its first two swapped are the same", i, v.Type())
		}
	}
	if swapped < 20 {
		t.Errorf("only %d lists", swapped)
	}
}

// P12.2: programs of texts.
func TestSameOfTexts(t *testing.T) {
	for _, l := range [][2]string{
		{"", "; remark\n"},
		{"rule r when then end", "rule r 0 when then end"},
		{"rule r when then end", "rule r -0\nwhen\nthen\nend ; remark"},
		{"rule r - 5 when then end", "rule r -5 when then end"},
		{"rule r -5 when a(x: 1) then halt end", "rule r -5 when\n a(x:(1)) then halt end"},
		{"rule r when a(x: = 1) then end", "rule r when a(x: 1) then end"},
		{"rule r when not(a()) then end", "rule r when not ( a ( ) ) then end"},
		{"template a x:int rule r when then assert a(x: 1 + 2) end", "template a x : int\nrule r when then assert a ( x : ((1) + (2)) ) end"},
		{full, "\n\n   " + strings.ReplaceAll(full, " ", " ; (\n ")},
	} {
		if !Same(mustParse(t, l[0]), mustParse(t, l[1])) || !Same(mustParse(t, l[1]), mustParse(t, l[0])) {
			t.Errorf("%q and %q: not the same", l[0], l[1])
		}
	}
	texts := []string{
		"", "template a x:int", "template b x:int", "template a y:int", "template a x:dec", "template a x:int x:int", "template a x:int template b x:int", "template b x:int template a x:int", "template a x:int rule r when then end",
		"rule r when then end", "rule s when then end", "rule r 1 when then end", "rule r -1 when then end", "rule r when then end rule s when then end", "rule s when then end rule r when then end",
		"rule r when a() then end", "rule r when b() then end", "rule r when p: a() then end", "rule r when q: a() then end", "rule r when not a() then end", "rule r when exists a() then end", "rule r when not (a()) then end", "rule r when not (a() a()) then end", "rule r when a() a() then end", "rule r when not (a() b()) then end", "rule r when not (b() a()) then end", "rule r when not a() b() then end",
		"rule r when a(x: 1) then end", "rule r when a(x: 1.5) then end", "rule r when a(x: -1) then end", "rule r when a(x: -) then end", "rule r when a(x: > 1) then end", "rule r when a(y: 1) then end", "rule r when a(x: 1, x: 1) then end", "rule r when a(x: 1, 1) then end", "rule r when a(x: [1 .. 2]) then end", "rule r when a(x: [1 .. 2)) then end", "rule r when a(x: (1 .. 2]) then end", "rule r when a(x: ?n) then end", "rule r when a(x: #n) then end", "rule r when a(x: \"n\") then end",
		"rule r when test 1 then end", "rule r when test -1 then end", "rule r when test 2 then end", "rule r when test ?n then end", "rule r when test ?m then end", "rule r when test 1 = 2 then end", "rule r when test 2 = 1 then end",
		"rule r when then halt end", "rule r when then halt halt end", "rule r when then retract a end", "rule r when then retract b end", "rule r when then assert a() end", "rule r when then logical a() end", "rule r when then modify a() end", "rule r when then assert b() end", "rule r when then assert a(x: 1) end", "rule r when then assert a(x: 2) end", "rule r when then assert a(y: 1) end", "rule r when then assert a(x: 1, x: 1) end", "rule r when then logical a(x: 1) end", "rule r when then halt retract a end", "rule r when then retract a halt end",
	}
	for i, a := range texts {
		for j, b := range texts {
			if got := Same(mustParse(t, a), mustParse(t, b)); got != (i == j) {
				t.Errorf("%q and %q: %v", a, b, got)
			}
		}
	}
}

// P12.2: any two programs, also such that no text is read as.
func TestSameOfAnyPrograms(t *testing.T) {
	empty := api.Program{Templates: []api.Template{}, At: []api.Place{}, Rules: []api.Rule{}}
	if !Same(api.Program{}, empty) || !Same(empty, api.Program{}) || !Same(api.Program{At: []api.Place{{Line: 1}}}, empty) {
		t.Error("programs of nothing are not the same")
	}
	one := func(c api.Cond, a api.Action) api.Program {
		return api.Program{Rules: []api.Rule{{Conds: []api.Cond{c}, Acts: []api.Action{a}}}}
	}
	if !Same(one(api.Cond{}, api.Action{}), one(api.Cond{Patterns: []api.Pattern{}, Test: api.Expr{}}, api.Action{Sets: []api.Set{}})) {
		t.Error("a list that is not there and an empty one are not one")
	}
	if !Same(one(api.Cond{Patterns: []api.Pattern{{}}}, api.Action{Sets: []api.Set{{}}}), one(api.Cond{Patterns: []api.Pattern{{Slots: []api.SlotTest{}}}}, api.Action{Sets: []api.Set{{E: api.Expr{}}}})) {
		t.Error("a list that is not there and an empty one are not one, below patterns and sets")
	}
	if !Same(api.Program{Templates: []api.Template{{}}}, api.Program{Templates: []api.Template{{Slots: []api.Slot{}}}}) {
		t.Error("a list that is not there and an empty one are not one, of templates")
	}
	if Same(api.Program{Templates: []api.Template{{}}}, api.Program{}) || Same(api.Program{}, api.Program{Rules: []api.Rule{{}}}) {
		t.Error("what is empty is as nothing")
	}
	// Tests and patterns of conditions that have none are parts, too.
	if Same(one(api.Cond{Kind: 1, Test: api.Expr{{}}}, api.Action{}), one(api.Cond{Kind: 1}, api.Action{})) ||
		Same(one(api.Cond{Kind: 5, Patterns: []api.Pattern{{}}}, api.Action{}), one(api.Cond{Kind: 5}, api.Action{})) ||
		Same(one(api.Cond{Kind: 2, Patterns: []api.Pattern{{Name: "p"}}}, api.Action{}), one(api.Cond{Kind: 2, Patterns: []api.Pattern{{}}}, api.Action{})) ||
		Same(one(api.Cond{}, api.Action{Kind: 5, Name: "p"}), one(api.Cond{}, api.Action{Kind: 5})) {
		t.Error("parts that have no meaning are not held against each other")
	}

	r := rand.New(rand.NewSource(14))
	for range 3000 {
		a, b := anyProgram(r), anyProgram(r)
		c := api.Program{}
		copyAll(reflect.ValueOf(&c).Elem(), reflect.ValueOf(a))
		for _, v := range partsOf(&c) {
			if p, ok := v.Addr().Interface().(*api.Place); ok {
				*p = api.Place{Line: r.Int(), Col: -r.Int()}
			}
		}
		if !Same(a, a) || !Same(a, c) || !Same(c, a) {
			t.Fatalf("%v: not the same as itself with other places", a)
		}
		if Same(a, b) != Same(b, a) {
			t.Fatalf("%v and %v: not the same both ways", a, b)
		}
	}
}

// copyAll makes to a value of its own that has all that from has.
func copyAll(to, from reflect.Value) {
	switch from.Kind() {
	case reflect.Struct:
		for i := range from.NumField() {
			copyAll(to.Field(i), from.Field(i))
		}
	case reflect.Slice:
		to.Set(reflect.MakeSlice(from.Type(), from.Len(), from.Len()))
		for i := range from.Len() {
			copyAll(to.Index(i), from.Index(i))
		}
	default:
		to.Set(from)
	}
}

// anyProgram makes one of anything, by its types alone.
func anyProgram(r *rand.Rand) api.Program {
	var p api.Program
	var fill func(v reflect.Value)
	fill = func(v reflect.Value) {
		switch v.Kind() {
		case reflect.Struct:
			for i := range v.NumField() {
				fill(v.Field(i))
			}
		case reflect.Slice:
			v.Set(reflect.MakeSlice(v.Type(), r.Intn(3), 3))
			for i := range v.Len() {
				fill(v.Index(i))
			}
		case reflect.String:
			v.SetString([]string{"", "a", "rule", "\xff"}[r.Intn(4)])
		case reflect.Int, reflect.Int64:
			v.SetInt(int64(r.Intn(4)-1) << r.Intn(63))
		case reflect.Uint8:
			v.SetUint(uint64([]int{0, 1, 4, 5, 9, 255}[r.Intn(6)]))
		case reflect.Bool:
			v.SetBool(r.Intn(2) == 0)
		}
	}
	fill(reflect.ValueOf(&p).Elem())
	return p
}

// P12.1, P12.2: answers are in memory of their own; nothing is kept from call to call.
func TestMemory(t *testing.T) {
	p, q := mustParse(t, full), mustParse(t, full)
	want := dump(q)
	spans := map[uintptr]bool{}
	for _, v := range append(partsOf(&p), partsOf(&q)...) {
		if v.Kind() != reflect.Slice || v.Len() == 0 {
			continue
		}
		// All that a list has room for is its own.
		size := v.Type().Elem().Size()
		for i := range v.Cap() {
			at := v.Pointer() + uintptr(i)*size
			if spans[at] {
				t.Fatalf("two lists share memory: %v", v.Type())
			}
			spans[at] = true
		}
	}
	for _, v := range partsOf(&p) {
		for _, change := range changes(v)[:min(1, len(changes(v)))] {
			if v.Kind() != reflect.Slice {
				change()
			}
		}
	}
	if dump(q) != want || dump(mustParse(t, full)) != want {
		t.Error("a program is changed by what is done to another one's parts")
	}
	if p, _, e := Parse("rule r 101 when then end"); e != api.ErrForm || dump(p) != "" {
		t.Error("a text that is refused tells another one's program")
	}
	if dump(mustParse(t, full)) != want {
		t.Error("a text is read otherwise behind one that is refused")
	}
	r := mustParse(t, full)
	Same(q, r)
	if dump(q) != want || dump(r) != want {
		t.Error("Same changes what is handed in")
	}
}
