package desugar

import (
	"fmt"
	"math/rand"
	"reflect"
	"slices"
	"strings"
	"testing"

	"witan/api"
	"witan/table"
)

// full is a table with each part that a table may have, lists of two or more.
const full = `table t priority -1 2 7
in x:int y:str
out z:int w:sym
row > 1, not("a", "b", [upper(?) .. "c")) : ?x + 1, #s
row (abs(?) .. 2], - : min(1, ?x), null
row -, "u" : 3, if(?y = "u", #a, #b)
end
`

// holdMay asks each call of a table that may be.
func holdMay(t *testing.T, a api.Table) {
	t.Helper()
	holdModel(t, a)
	var in []api.Value
	for _, s := range a.In {
		in = append(in, values(`null 1 1.5 "u" true #a`)[s.Kind])
	}
	holdInputs(t, a, in, api.OK)
	holdInputs(t, a, append(in, api.Value{}), api.ErrArg)
	s := append(values("7"), make([]api.Value, len(a.Out))...)
	holdHits(t, a, []api.Fact{{T: 1, S: s}, {T: 0, S: s}, {T: 1, S: s[1:]}}, [][]api.Value{s[1:]})
}

// P17.1 to P17.3: a table with each part of it changed alone; many may not be.
func TestTablesThatMayNotBe(t *testing.T) {
	a := tableOf(t, full)
	holdMay(t, a)
	may, not := 0, 0
	for i := range partsOf(&a) {
		c := copyOf(a)
		for k := range changes(partsOf(&c)[i]) {
			c := copyOf(a)
			changes(partsOf(&c)[i])[k]()
			if table.May(c) {
				may++
				holdMay(t, c)
			} else {
				not++
				holdForm(t, c, fmt.Sprint(c))
			}
		}
	}
	if may < 100 || not < 400 {
		t.Errorf("%d tables may be, %d not: too few", may, not)
	}
	holdForm(t, api.Table{}, "no table")
	for _, s := range []string{
		"table t any in x:int x:int out y:int row -, - : 1 end",
		"table t any in x:int out y:int y:int row - : 1, 1 end",
		"table t sum in x:int out y:str end",
		"table t sum in x:int out y:int z:int end",
		"table t min in x:int out y:int z:int end",
		"table t max in x:int out y:int z:int end",
		"table t priority 1.5 in x:int out y:int end",
		"table t priority 1 1 in x:int out y:int end",
		`table t any in x:int out y:int row "a" : 1 end`,
		`table t any in x:int out y:int row - : "a" end`,
		"table t any in x:int out y:int row - : ?z end",
		"table t any in x:int out y:int row ?x : 1 end",
		"table t any in x:int out y:int row - : ? end",
	} {
		b, _, e := table.Parse(s)
		if e != api.OK {
			t.Errorf("%s: %d", s, e)
		}
		holdForm(t, b, s)
	}
}

// P17.1 to P17.3: policies that are none, parts that are too many.
func TestTooMuch(t *testing.T) {
	for _, policy := range []uint8{0, 11, 255} {
		a := tableOf(t, "table t collect in x:int y:str out z:int w:sym row -, - : 1, #a row -, - : 1 / 0, #b end")
		a.Policy = policy
		holdForm(t, a, fmt.Sprint("policy ", policy))
	}
	a := tableOf(t, "table t collect in x:int out z:int row - : 1 end")
	a.Rows = slices.Repeat(a.Rows, 33)
	holdForm(t, a, "33 rows")
	a.Rows = a.Rows[:32]
	holdMay(t, a)
	for _, many := range []int{5, 8, 9} {
		a := tableOf(t, "table t collect in x:int out z:int end")
		for i := 1; i < many; i++ {
			a.In = append(a.In, api.Slot{Name: fmt.Sprint("x", i), Kind: api.Int})
		}
		holdForm(t, a, fmt.Sprint(many, " inputs"))
		a.In, a.Out = a.In[:4], a.In
		holdForm(t, a, fmt.Sprint(many, " outputs"))
		a.Out = a.Out[:4]
		holdMay(t, a)
	}
}

// P1: any table, any inputs and any facts have an answer, the same each time.
func TestAnything(t *testing.T) {
	r := rand.New(rand.NewSource(5))
	tables := []api.Table{tableOf(t, full), tableOf(t, "table t first in x:int out y:int row - : 1 end"), tableOf(t, "table t any in x:str y:sym z:bool out y:int z:dec w:sym end")}
	for range 3000 {
		var a api.Table
		if fill(r, reflect.ValueOf(&a).Elem()); r.Intn(2) == 0 {
			a = tables[r.Intn(len(tables))]
		}
		var in []api.Value
		var facts []api.Fact
		fill(r, reflect.ValueOf(&in).Elem())
		fill(r, reflect.ValueOf(&facts).Elem())
		before := fmt.Sprintf("%#v %#v %#v", a, in, facts)
		p, e := Program(a)
		f, e2 := Inputs(a, in)
		l, e3 := Hits(a, facts)
		if !table.May(a) {
			if e != api.ErrForm || e2 != e || e3 != e {
				t.Errorf("%s: %d, %d, %d", before, e, e2, e3)
			}
		} else if holdHits(t, a, facts, inOrder(len(a.Out), facts)); e != api.OK || e2 != api.OK && e2 != api.ErrArg {
			t.Errorf("%s: %d, %d", before, e, e2)
		}
		if e != api.OK && !isNone(p) || e2 != api.OK && (f.ID != 0 || f.T != 0 || f.S != nil) || e3 != api.OK && l != nil {
			t.Errorf("%s: beside an error: %v, %v, %v", before, p, f, l)
		}
		first := fmt.Sprintf("%#v %d %#v %d %#v %d", p, e, f, e2, l, e3)
		p, e = Program(a)
		f, e2 = Inputs(a, in)
		l, e3 = Hits(a, facts)
		if again := fmt.Sprintf("%#v %d %#v %d %#v %d", p, e, f, e2, l, e3); again != first {
			t.Errorf("%s: asked again: %s; want %s", before, again, first)
		}
		if after := fmt.Sprintf("%#v %#v %#v", a, in, facts); after != before {
			t.Errorf("%s is changed: %s", before, after)
		}
	}
}

// P1: what is very long ends soon.
func TestVeryMany(t *testing.T) {
	const many = 1 << 18
	a := tableOf(t, "table t any in x:int out z:int row - : ?x end")
	for _, v := range values("1 null") {
		l := slices.Repeat([]api.Value{v}, many)
		if f, e := Inputs(a, l); e != api.ErrArg || f.S != nil {
			t.Error(e)
		}
		if l, e := Hits(a, []api.Fact{{T: 1, S: l}}); e != api.OK || len(l) != 0 {
			t.Error(len(l), e)
		}
	}
	for step, first := range map[int64]int64{1: 0, -1: many - 1, 0: 5} {
		var facts []api.Fact
		for i := range int64(many) {
			facts = append(facts, api.Fact{T: 1, S: []api.Value{{Kind: api.Int, N: first + i*step}, {Kind: api.Int, N: i}}})
		}
		l, e := Hits(a, facts)
		if e != api.OK || len(l) != many {
			t.Fatal(len(l), e)
		}
		for i := range l {
			want := int64(i)
			if step < 0 {
				want = int64(many - 1 - i)
			}
			if len(l[i]) != 1 || l[i][0].N != want {
				t.Fatal(step, i, l[i])
			}
		}
	}
	row := a.Rows[0]
	a.Rows = slices.Repeat([]api.Row{row}, many)
	holdForm(t, a, "very many rows")
	a.Rows = nil
	a.In = slices.Repeat(a.In, many)
	holdForm(t, a, "very many inputs")
	a.In, a.Out = a.In[:1], a.In
	holdForm(t, a, "very many outputs")
	a.Out = a.In
	a.Name = strings.Repeat("t", many)
	holdForm(t, a, "a very long name")
}
