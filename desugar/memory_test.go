package desugar

import (
	"fmt"
	"math/rand"
	"reflect"
	"slices"
	"testing"

	"witan/api"
)

// holdApart asks that what is told shares no memory with what was handed in,
// nor two of its lists with each other.
func holdApart(t *testing.T, told, handed any, what string) {
	t.Helper()
	if !areApart(spans(told)) {
		t.Errorf("%s: two lists of it share memory", what)
	}
	l := spans(handed)
	for _, a := range spans(told) {
		for _, b := range l {
			if a.from < b.to && b.from < a.to {
				t.Errorf("%s: it shares memory with what was handed in", what)
				return
			}
		}
	}
}

// holdOwn asks a call twice, and writes over what it told between; told of it
// stays the same, and so does what is handed in.
func holdOwn[T any](t *testing.T, handed any, what string, call func() (T, api.Errno)) {
	t.Helper()
	before := whole(handed)
	var first string
	for i := range 3 {
		told, e := call()
		if said := fmt.Sprintf("%#v %d", told, e); i == 0 {
			first = said
		} else if said != first {
			t.Errorf("%s: asked again: %s; want %s", what, short(said), short(first))
		}
		holdApart(t, told, handed, what)
		spoil(reflect.ValueOf(&told).Elem())
		if after := whole(handed); after != before {
			t.Errorf("%s: written over: %s; want %s", what, short(after), short(before))
		}
	}
}

// holdOwnProgram asks it of a table.
func holdOwnProgram(t *testing.T, a api.Table) {
	t.Helper()
	holdOwn(t, a, "Program of "+short(a), func() (api.Program, api.Errno) { return Program(a) })
}

// Rules: a program is in memory of its own, a table stays.
func TestProgramsAreOnesOwn(t *testing.T) {
	holdOwnProgram(t, room(tableOf(t, full)))
	r := rand.New(rand.NewSource(8))
	for range 40 {
		a := tableOf(t, written(r, r.Intn(6)))
		holdOwnProgram(t, a)
		holdOwnProgram(t, room(a))
	}
	// Tables whose rows, and whose slots, share their memory.
	a := tableOf(t, "table t first in x:int y:int out z:int w:int row not(1, [2 .. ?]), not(1, [2 .. ?]) : ?x + 1, min(?x, ?y) end")
	a.Rows = slices.Repeat(a.Rows, 4)
	a.Out = a.In
	holdOwnProgram(t, a)
	for i := range a.Rows {
		a.Rows[i].Tests = slices.Repeat(a.Rows[0].Tests[:1], 2)
		a.Rows[i].Outs = slices.Repeat(a.Rows[0].Outs[:1], 2)
	}
	holdOwnProgram(t, a)
	holdModel(t, a)
	within := a.Rows[0].Tests[0][1]
	within.B = within.A
	a.Rows[0].Tests[0] = slices.Clone(a.Rows[0].Tests[0])
	a.Rows[0].Tests[0][1] = within
	a.Rows[0].Outs[0] = slices.Clone(within.A)
	a.Rows[0].Outs[1] = within.A
	holdOwnProgram(t, a)
	holdModel(t, a)
}

// Rules: so are inputs' facts, and so are rows of hits.
func TestFactsAreOnesOwn(t *testing.T) {
	a := tableOf(t, full)
	for _, in := range [][]api.Value{values(`1 "a"`), values("null null"), values("1"), nil} {
		for _, in := range [][]api.Value{in, room(in)} {
			holdOwn(t, in, "Inputs of "+short(in), func() (api.Fact, api.Errno) { return Inputs(a, in) })
		}
	}
	for _, s := range []string{"", "1 2 20 #a/0 1 2/1 1 10 #b", "1 1 2 null", "1 1 2 null/1 1 3 null/1 -1 4 #a/1 2 2"} {
		for _, facts := range [][]api.Fact{factsOf(s), room(factsOf(s)), slices.Repeat(factsOf(s), 3)} {
			holdOwn(t, facts, "Hits of "+short(facts), func() ([][]api.Value, api.Errno) { return Hits(a, facts) })
		}
	}
}
