package table

import (
	"math/rand"
	"reflect"
	"strings"
	"testing"

	"witan/api"
)

// P15.2: tables that are the same but for one part are not the same, whichever
// part it is; but for places they are.
func TestSameOfEachPart(t *testing.T) {
	want := mustParse(t, full)
	all := partsOf(&want)
	var places, others int
	for i, isPlace := range ofPlaces(all) {
		for k := range changes(all[i]) {
			a := mustParse(t, full)
			if !Same(a, want) || !Same(want, a) {
				t.Fatal("a table is not the same as itself")
			}
			v := partsOf(&a)[i]
			changes(v)[k]()
			if Same(a, want) != isPlace || Same(want, a) != isPlace {
				t.Errorf("part %d, of %v, change %d: the same: %v", i, v.Type(), k, !isPlace)
			}
			if isPlace {
				places++
			} else {
				others++
			}
		}
	}
	if places < 100 || others < 500 {
		t.Errorf("only %d changes of places, %d others", places, others)
	}
}

// P15.2: the order of each list counts.
func TestSameOfOrder(t *testing.T) {
	want := mustParse(t, full)
	swapped := 0
	for i := range partsOf(&want) {
		a := mustParse(t, full)
		v := partsOf(&a)[i]
		if v.Kind() != reflect.Slice || v.Len() < 2 {
			continue
		}
		first, second := reflect.New(v.Type().Elem()).Elem(), reflect.New(v.Type().Elem()).Elem()
		first.Set(v.Index(0))
		second.Set(v.Index(1))
		v.Index(0).Set(second)
		v.Index(1).Set(first)
		swapped++
		if Same(a, want) || Same(want, a) {
			t.Errorf("part %d, of %v: its first two swapped are the same", i, v.Type())
		}
	}
	if swapped < 12 {
		t.Errorf("only %d lists", swapped)
	}
}

// P15.2: tables of texts.
func TestSameOfTexts(t *testing.T) {
	for _, l := range [][2]string{
		{"table t any in x:int out y:int end", "table t\nany ; remark\nin x : int out y : int end"},
		{"table t priority -0 in x:int out y:int end", "table t priority 0 in x:int out y:int end"},
		{"table t any in x:int out y:int row = 1 : 2 end", "table t any in x:int out y:int row 1 : 2 end"},
		{"table t any in x:int out y:int row (1) : ((2)) end", "table t any in x:int out y:int row 1 : 2 end"},
		{full, "\n\n   " + strings.ReplaceAll(full, " ", " ; (\n ")},
	} {
		if !Same(mustParse(t, l[0]), mustParse(t, l[1])) || !Same(mustParse(t, l[1]), mustParse(t, l[0])) {
			t.Errorf("%q and %q: not the same", l[0], l[1])
		}
	}
	var texts []string
	for _, head := range []string{"t any", "u any", "t first", "t priority 1", "t priority 2", "t priority 1 1", "t priority 1.0", "t priority -1", "t priority #a", "t priority \"a\"", "t priority true", "t priority false", "t priority 0", "t priority 1 2", "t priority 2 1"} {
		texts = append(texts, "table "+head+" in x:int out y:int end")
	}
	for _, slots := range []string{"in x:int out z:int", "in z:int out y:int", "in x:dec out y:int", "in x:int out y:dec", "in x:int x:int out y:int", "in x:int out y:int y:int", "in y:int out x:int", "in x:int y:int out y:int", "in y:int x:int out y:int"} {
		texts = append(texts, "table t any "+slots+" end")
	}
	for _, rows := range []string{"row 1 : 2", "row 2 : 1", "row 1 : 2 row 1 : 2", "row 1 : 2 row 2 : 1", "row 2 : 1 row 1 : 2", "row - : 2", "row -1 : 2", "row not(1) : 2", "row > 1 : 2", "row 1.0 : 2", "row ?x : 2", "row ? : 2", "row 1 : ?x", "row 1 : -2", "row [1 .. 2] : 2", "row [1 .. 2) : 2", "row (1 .. 2] : 2"} {
		texts = append(texts, "table t any in x:int out y:int "+rows+" end")
	}
	for i, a := range texts {
		for j, b := range texts {
			if got := Same(mustParse(t, a), mustParse(t, b)); got != (i == j) {
				t.Errorf("%q and %q: %v", a, b, got)
			}
		}
	}
}

// P15.2: any two tables, also such that no text is read as.
func TestSameOfAnyTables(t *testing.T) {
	empty := api.Table{Order: []api.Value{}, In: []api.Slot{}, Out: []api.Slot{}, Rows: []api.Row{}, At: api.Place{Line: 5}}
	if !Same(api.Table{}, empty) || !Same(empty, api.Table{}) {
		t.Error("lists that are not there and empty ones are not one")
	}
	rows := func(l ...api.Row) api.Table { return api.Table{Rows: l} }
	if !Same(rows(api.Row{}), rows(api.Row{Tests: []api.Tests{}, Outs: []api.Expr{}, At: api.Place{Col: -1}})) || !Same(rows(api.Row{Tests: []api.Tests{nil}, Outs: []api.Expr{{}}}), rows(api.Row{Tests: []api.Tests{{}}, Outs: []api.Expr{nil}})) {
		t.Error("lists that are not there and empty ones are not one, of rows")
	}
	if Same(rows(api.Row{}), api.Table{}) || Same(api.Table{}, rows(api.Row{})) || Same(rows(api.Row{Tests: []api.Tests{nil}}), rows(api.Row{})) || Same(rows(api.Row{Outs: []api.Expr{nil}}), rows(api.Row{})) ||
		Same(api.Table{Order: []api.Value{{}}}, api.Table{}) || Same(api.Table{In: []api.Slot{{}}}, api.Table{}) || Same(api.Table{In: []api.Slot{{}}}, api.Table{Out: []api.Slot{{}}}) {
		t.Error("what is empty is as nothing")
	}
	// Parts that have no meaning are parts, too.
	for _, l := range [][2]api.Table{
		{{Policy: 2, Order: []api.Value{{Kind: 1}}}, {Policy: 2}},
		{{Policy: 3, Order: []api.Value{{Kind: 1, S: "u"}}}, {Policy: 3, Order: []api.Value{{Kind: 1}}}},
		{{Policy: 3, Order: []api.Value{{Kind: 3, N: 1}}}, {Policy: 3, Order: []api.Value{{Kind: 3}}}},
		{{Policy: 0}, {Policy: 11}},
		{{Policy: 255}, {Policy: 254}},
	} {
		if Same(l[0], l[1]) || Same(l[1], l[0]) {
			t.Errorf("%v and %v are the same", l[0], l[1])
		}
	}
	r := rand.New(rand.NewSource(14))
	for range 2000 {
		a, b := anyTable(r), anyTable(r)
		c := copyOf(a)
		for _, v := range partsOf(&c) {
			if p, ok := v.Addr().Interface().(*api.Place); ok {
				*p = api.Place{Line: r.Int(), Col: -r.Int()}
			}
		}
		if !Same(a, a) || !Same(a, c) || !Same(c, a) {
			t.Fatalf("%v: not the same as itself with other places", a)
		}
		if Same(a, b) != Same(b, a) {
			t.Fatalf("%v and %v: not the same both ways", a, b)
		}
	}
}

// P15.1, P15.2: what is told is in memory of its own; nothing is kept from call
// to call, and what is handed in stays.
func TestMemory(t *testing.T) {
	a, b := mustParse(t, full), mustParse(t, full)
	want := dump(b)
	spans := map[uintptr]bool{}
	for _, v := range append(partsOf(&a), partsOf(&b)...) {
		if v.Kind() != reflect.Slice || v.Len() == 0 {
			continue
		}
		// All that a list has room for is its own.
		size := v.Type().Elem().Size()
		for i := range v.Cap() {
			at := v.Pointer() + uintptr(i)*size
			if spans[at] {
				t.Fatalf("two lists share memory: %v", v.Type())
			}
			spans[at] = true
		}
	}
	spoil(&a)
	if dump(b) != want || dump(mustParse(t, full)) != want {
		t.Error("a table is changed by what is done to another one's parts")
	}
	if a, _, e := Parse(head + " row 1, 2 : 1 end"); e != api.ErrMany || !reflect.DeepEqual(a, api.Table{}) {
		t.Error("a text that is refused tells another one's table")
	}
	if dump(mustParse(t, full)) != want {
		t.Error("a text is read otherwise behind one that is refused")
	}
	c := copyOf(b)
	Same(b, c)
	for range 2 {
		if s, e := Text(b); s != full || e != api.OK {
			t.Errorf("Text = %q, %d; want %q", s, e, full)
		}
		if at, e := Check(b); at != (api.Place{}) || e != api.OK || !May(b) {
			t.Errorf("Check = %v, %d", at, e)
		}
		if !reflect.DeepEqual(b, mustParse(t, full)) {
			t.Error("what is handed in is changed")
		}
	}
}
