package own

import (
	"reflect"
	"testing"

	"witan/api"
)

// cond has parts of each kind.
func cond() api.Cond {
	x := func(n int64) api.Expr {
		return api.Expr{{Op: api.OpLit, V: api.Value{Kind: api.Int, N: n}}, {Op: api.OpNeg, Name: "n", Kids: []int{0}, At: api.Place{Line: 1, Col: 2}}}
	}
	l := api.Tests{{Op: api.TestIn, A: x(1), B: x(2), Low: true}, {Op: api.TestNot, Kids: []int{0}, High: true}}
	p := api.Pattern{Name: "f", T: "a", Slots: []api.SlotTest{{Slot: "x", Test: l, At: api.Place{Line: 3}}, {Slot: "y"}}}
	return api.Cond{Kind: api.CondNone, Patterns: []api.Pattern{p, {T: "b"}}, Test: x(3), At: api.Place{Col: 4}}
}

// lists tells where each list of v begins.
func lists(v reflect.Value) []uintptr {
	var l []uintptr
	switch v.Kind() {
	case reflect.Struct:
		for i := range v.NumField() {
			l = append(l, lists(v.Field(i))...)
		}
	case reflect.Slice:
		if v.Cap() > 0 {
			l = append(l, v.Pointer())
		}
		for i := range v.Len() {
			l = append(l, lists(v.Index(i))...)
		}
	}
	return l
}

// hold asks for a copy that has all that v has, and shares no list with it.
func hold[T any](t *testing.T, name string, v T, copied func(v T) T) {
	t.Helper()
	c := copied(v)
	if !reflect.DeepEqual(c, v) {
		t.Errorf("%s: %v, of %v", name, c, v)
	}
	seen := map[uintptr]bool{}
	for _, p := range append(lists(reflect.ValueOf(c)), lists(reflect.ValueOf(v))...) {
		if seen[p] {
			t.Errorf("%s: memory is shared", name)
		}
		seen[p] = true
	}
	if len(seen) == 0 {
		t.Errorf("%s: nothing was copied", name)
	}
}

func TestCopies(t *testing.T) {
	hold(t, "List", []int{1, 2}, List)
	hold(t, "Templates", []api.Template{{Name: "a", Slots: []api.Slot{{Name: "x", Kind: api.Int}, {Name: "y", Kind: api.Sym}}}, {Name: "b"}}, Templates)
	hold(t, "Cond", cond(), Cond)
	hold(t, "Pattern", cond().Patterns[0], Pattern)
	hold(t, "Tests", cond().Patterns[0].Slots[0].Test, Tests)
	hold(t, "Expr", cond().Test, Expr)
}

// Lists without parts have room that is another's.
func TestCopiesOfNothing(t *testing.T) {
	room := []int{1, 2}
	for _, l := range [][]int{nil, {}, room[:0]} {
		if c := List(l); len(c) != 0 || cap(c) != 0 {
			t.Error("List:", len(c), cap(c))
		}
	}
	if c := Cond(api.Cond{}); !reflect.DeepEqual(c, api.Cond{}) {
		t.Error("Cond:", c)
	}
	if p := Pattern(api.Pattern{}); !reflect.DeepEqual(p, api.Pattern{}) {
		t.Error("Pattern:", p)
	}
	if l := Templates(nil); l != nil {
		t.Error("Templates:", l)
	}
}
