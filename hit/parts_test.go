package hit

import (
	"fmt"
	"math/rand"
	"reflect"
	"slices"
	"strings"
	"testing"

	"witan/api"
	"witan/table"
)

// full is a table with each part that a table may have, lists of two or more.
const full = `table t priority -1 2 7
in x:int y:str
out z:int w:sym
row > 1, not("a", "b", [upper(?) .. "c")) : ?x + 1, #s
row (abs(?) .. 2], - : min(1, ?x), null
row -, "u" : 3, if(?y = "u", #a, #b)
end
`

// parts tells all that a value is made of, itself first: whatever can be set.
func parts(v reflect.Value) []reflect.Value {
	l := []reflect.Value{v}
	switch v.Kind() {
	case reflect.Struct:
		for i := range v.NumField() {
			l = append(l, parts(v.Field(i))...)
		}
	case reflect.Slice:
		for i := range v.Len() {
			l = append(l, parts(v.Index(i))...)
		}
	}
	return l
}

// partsOf tells those of a table, each time in the same order.
func partsOf(a *api.Table) []reflect.Value { return parts(reflect.ValueOf(a).Elem()) }

// changes tells by what one part alone is made another one.
func changes(v reflect.Value) []func() {
	switch v.Kind() {
	case reflect.String:
		return []func(){func() { v.SetString("p") }, func() { v.SetString("not") }, func() { v.SetString(v.String() + "\n") }}
	case reflect.Int, reflect.Int64:
		return []func(){func() { v.SetInt(v.Int() + 1) }, func() { v.SetInt(v.Int() - 1) }, func() { v.SetInt(-1 << 63) }, func() { v.SetInt(1 << 40) }}
	case reflect.Uint8:
		var l []func()
		for _, n := range []uint64{0, 1, 2, 3, 7, 8, 11, 255} {
			l = append(l, func() { v.SetUint(n) })
		}
		return l
	case reflect.Bool:
		return []func(){func() { v.SetBool(!v.Bool()) }}
	case reflect.Slice:
		l := []func(){func() { v.Set(reflect.Append(v, reflect.Zero(v.Type().Elem()))) }}
		if v.Len() > 0 {
			first := v.Index(0)
			l = append(l, func() { v.Set(v.Slice(0, v.Len()-1)) }, func() { v.Set(v.Slice(1, v.Len())) }, func() { v.SetZero() }, func() { v.Set(reflect.Append(v, first)) })
		}
		return l
	}
	return nil
}

// copyAll makes to a value of its own that has all that from has.
func copyAll(to, from reflect.Value) {
	switch from.Kind() {
	case reflect.Struct:
		for i := range from.NumField() {
			copyAll(to.Field(i), from.Field(i))
		}
	case reflect.Slice:
		to.Set(reflect.MakeSlice(from.Type(), from.Len(), from.Len()))
		for i := range from.Len() {
			copyAll(to.Index(i), from.Index(i))
		}
	default:
		to.Set(from)
	}
}

// copyOf tells a value that has all that v has, in memory of its own.
func copyOf[T any](v T) T {
	var c T
	copyAll(reflect.ValueOf(&c).Elem(), reflect.ValueOf(v))
	return c
}

// holdForm asks that each call tells api.ErrForm, whatever else is wrong.
func holdForm(t *testing.T, a api.Table, what string) {
	t.Helper()
	for _, in := range []string{"1", `1 "a"`, "#a #b #c"} {
		if l, e := Passing(a, values(in)); e != api.ErrForm || l != nil {
			t.Errorf("Passing(%s, %s) = %v, %d", what, in, l, e)
		}
		l, e := Answer(a, values(in))
		holdRows(t, l, e, nil, api.ErrForm, "Answer(%s, %s)", what, in)
		for _, row := range []int{0, -1, 3} {
			if l, e := Outputs(a, row, values(in)); e != api.ErrForm || l != nil {
				t.Errorf("Outputs(%s, %d, %s) = %v, %d", what, row, in, l, e)
			}
		}
	}
	for _, rows := range []string{"", "1 #s", "1", "1 #s/1 #s/2"} {
		l, e := Choose(a, rowsOf(rows))
		holdRows(t, l, e, nil, api.ErrForm, "Choose(%s, %s)", what, rows)
	}
	l, e := Choose(a, [][]api.Value{nil, {{Kind: 255}}})
	holdRows(t, l, e, nil, api.ErrForm, "Choose(%s)", what)
}

// holdAnswers asks that a table that may be answers one or the other of each
// call.
func holdAnswers(t *testing.T, a api.Table, what string) {
	t.Helper()
	var in []api.Value
	for _, s := range a.In {
		in = append(in, values(`null 1 1.5 "u" true #a`)[s.Kind])
	}
	rows, e := Passing(a, in)
	if e != api.OK {
		t.Errorf("Passing(%s) = %v, %d", what, rows, e)
	}
	var all [][]api.Value
	first := api.OK
	for _, row := range rows {
		l, e := Outputs(a, row, in)
		if first == api.OK {
			first = e
		}
		if all = append(all, l); a.Policy == api.PolFirst {
			break
		}
	}
	l, e := Answer(a, in)
	if first != api.OK {
		holdRows(t, l, e, nil, first, "Answer(%s)", what)
		return
	}
	chosen, e2 := Choose(a, all)
	holdRows(t, l, e, chosen, e2, "Answer(%s)", what)
}

// P16.1 to P16.3: a table that may not be, each part of it changed alone.
func TestTablesThatMayNotBe(t *testing.T) {
	a := tableOf(t, full)
	may, not := 0, 0
	count := len(partsOf(&a))
	for i := range count {
		c := copyOf(a)
		for k := range changes(partsOf(&c)[i]) {
			c := copyOf(a)
			changes(partsOf(&c)[i])[k]()
			if what := fmt.Sprintf("%v", c); table.May(c) {
				may++
				holdAnswers(t, c, what)
			} else {
				not++
				holdForm(t, c, what)
			}
		}
	}
	if may < 100 || not < 400 {
		t.Errorf("%d tables may be, %d not: too few", may, not)
	}
	holdForm(t, api.Table{}, "no table")
	for _, s := range []string{
		"table t any in x:int x:int out y:int row -, - : 1 end",
		"table t any in x:int out y:int y:int row - : 1, 1 end",
		"table t sum in x:int out y:str end",
		"table t sum in x:int out y:int z:int end",
		"table t min in x:int out y:int z:int end",
		"table t priority 1.5 in x:int out y:int end",
		"table t priority 1 1 in x:int out y:int end",
		`table t any in x:int out y:int row "a" : 1 end`,
		`table t any in x:int out y:int row - : "a" end`,
		"table t any in x:int out y:int row - : ?z end",
		"table t any in x:int out y:int row ?x : 1 end",
		"table t any in x:int out y:int row - : ? end",
	} {
		b, _, e := table.Parse(s)
		if e != api.OK {
			t.Errorf("%s: %d", s, e)
		}
		holdForm(t, b, s)
	}
}

// P16.1 to P16.3: where several errors apply, the table's is told first.
func TestFormFirst(t *testing.T) {
	for _, policy := range []uint8{0, 11, 255} {
		a := tableOf(t, "table t collect in x:int y:str out z:int w:sym row -, - : 1, #a row -, - : 1 / 0, #b end")
		a.Policy = policy
		holdForm(t, a, fmt.Sprint("policy ", policy))
	}
	a := tableOf(t, "table t collect in x:int out z:int end")
	for range 33 {
		a.Rows = append(a.Rows, tableOf(t, "table t collect in x:int out z:int row - : 1 end").Rows...)
	}
	holdForm(t, a, "33 rows")
	a.Rows = a.Rows[:32]
	answers(t, a, "1", strings.TrimPrefix(strings.Repeat("/1", 32), "/"), api.OK)
	holdPassing(t, a, "1", 0, 1, 2, 3, 4, 5, 6, 7, 8, 9, 10, 11, 12, 13, 14, 15, 16, 17, 18, 19, 20, 21, 22, 23, 24, 25, 26, 27, 28, 29, 30, 31)
}

// P1: any table, any inputs and any rows have an answer.
func TestAnything(t *testing.T) {
	r := rand.New(rand.NewSource(5))
	full := tableOf(t, full)
	for range 1500 {
		var a api.Table
		if fill(r, reflect.ValueOf(&a).Elem()); r.Intn(2) == 0 {
			a = full
		}
		var in []api.Value
		var rows [][]api.Value
		fill(r, reflect.ValueOf(&in).Elem())
		fill(r, reflect.ValueOf(&rows).Elem())
		row := (r.Intn(4) - 1) << r.Intn(64)
		before := fmt.Sprintf("%#v %#v %#v", a, in, rows)
		l, e := Passing(a, in)
		l2, e2 := Outputs(a, row, in)
		l3, e3 := Answer(a, in)
		l4, e4 := Choose(a, rows)
		if !table.May(a) && (e != api.ErrForm || e2 != e || e3 != e || e4 != e) {
			t.Errorf("%s: %d, %d, %d, %d", before, e, e2, e3, e4)
		}
		if e != api.OK && l != nil || e2 != api.OK && l2 != nil || e3 != api.OK && l3 != nil || e4 != api.OK && l4 != nil {
			t.Errorf("%s: beside an error: %v, %v, %v, %v", before, l, l2, l3, l4)
		}
		if after := fmt.Sprintf("%#v %#v %#v", a, in, rows); after != before {
			t.Errorf("%s is changed: %s", before, after)
		}
	}
}

// fill makes anything of a value, by its type alone.
func fill(r *rand.Rand, v reflect.Value) {
	switch v.Kind() {
	case reflect.Struct:
		for i := range v.NumField() {
			fill(r, v.Field(i))
		}
	case reflect.Slice:
		v.Set(reflect.MakeSlice(v.Type(), r.Intn(3), 3))
		for i := range v.Len() {
			fill(r, v.Index(i))
		}
	case reflect.String:
		v.SetString([]string{"", "a", "b", "row", "\xff"}[r.Intn(5)])
	case reflect.Int, reflect.Int64:
		v.SetInt(int64(r.Intn(4)-1) << r.Intn(64))
	case reflect.Uint8:
		v.SetUint(uint64([]int{0, 1, 2, 3, 4, 5, 6, 9, 10, 11, 255}[r.Intn(11)]))
	case reflect.Bool:
		v.SetBool(r.Intn(2) == 0)
	}
}

// P1: what is very long ends soon.
func TestVeryMany(t *testing.T) {
	const many = 1 << 18
	a := tableOf(t, "table t any in x:int out z:int row - : ?x end")
	for _, v := range values("1 null") {
		l := slices.Repeat([]api.Value{v}, many)
		if rows, e := Passing(a, l); e != api.ErrArg || rows != nil {
			t.Error(e)
		}
		if l, e := Outputs(a, 0, l); e != api.ErrArg || l != nil {
			t.Error(e)
		}
		if l, e := Answer(a, l); e != api.ErrArg || l != nil {
			t.Error(e)
		}
		if l, e := Choose(a, [][]api.Value{l}); e != api.ErrArg || l != nil {
			t.Error(e)
		}
	}
	rows := slices.Repeat(rowsOf("1"), many)
	for _, word := range policyWords() {
		b := choosing(t, word, "int")
		want := map[bool]string{true: "1"}[word != "sum" && word != "count"]
		l, e := Choose(b, rows)
		switch word {
		case "unique":
			holdRows(t, l, e, nil, api.ErrTwice, "%s", word)
		case "order", "collect":
			if len(l) != many || e != api.OK {
				t.Error(word, len(l), e)
			}
		case "sum", "count":
			holdRows(t, l, e, rowsOf("262144"), api.OK, "%s", word)
		default:
			holdRows(t, l, e, rowsOf(want), api.OK, "%s", word)
		}
		if l, e := Choose(b, append(slices.Clone(rows), nil)); e != api.ErrArg || l != nil {
			t.Error(word, e)
		}
	}
	row := a.Rows[0]
	a.Rows = slices.Repeat([]api.Row{row}, many)
	holdForm(t, a, "very many rows")
	a.Rows = nil
	a.In = slices.Repeat(a.In, many)
	holdForm(t, a, "very many inputs")
}

// Rules: what is told is in memory of its own, what is handed in stays.
func TestMemory(t *testing.T) {
	slots := " in x:int y:str out z:int w:str row -, - : ?x, ?y row -, - : ?x, upper(?y) row -, - : 3, \"u\" row 9, - : 0, null end"
	one := " in x:int y:str out z:int row -, - : ?x row -, - : 1 row -, - : 3 row 9, - : 0 end"
	rowsOfOne, rowsOfTwo := rowsOf("4/null/2/4"), rowsOf(`4 "a"/null "b"/2 null/4 "a"`)
	for _, x := range []struct {
		text string
		rows [][]api.Value
	}{
		{"first" + slots, rowsOfTwo}, {"order" + slots, rowsOfTwo}, {"collect" + slots, rowsOfTwo}, {"priority 3 2" + slots, rowsOfTwo}, {"unique" + slots, rowsOfTwo[:1]}, {"any" + slots, rowsOfTwo[:1]}, {"any" + slots, [][]api.Value{rowsOfTwo[0], rowsOfTwo[3], rowsOfTwo[0]}}, {"collect" + slots, [][]api.Value{rowsOfTwo[1], rowsOfTwo[1], rowsOfTwo[1]}},
		{"sum" + one, rowsOfOne}, {"min" + one, rowsOfOne}, {"max" + one, rowsOfOne}, {"count" + one, rowsOfOne}, {"sum" + one, rowsOfOne[:1]}, {"min" + one, rowsOfOne[1:2]},
	} {
		a := tableOf(t, "table t "+x.text)
		in := values(`1 "a"`)
		holdOwn(t, a, in, x.rows)
	}
}

// holdOwn asks all calls twice, and writes over what they told between.
func holdOwn(t *testing.T, a api.Table, in []api.Value, rows [][]api.Value) {
	t.Helper()
	a, in, rows = room(a), room(in), room(rows)
	before := whole(a) + whole(in) + whole(rows)
	ask := func() (string, []func()) {
		l, e := Passing(a, in)
		l2, e2 := Outputs(a, 0, in)
		l3, e3 := Answer(a, in)
		l4, e4 := Choose(a, rows)
		return fmt.Sprintf("%#v %d %#v %d %#v %d %#v %d", l, e, l2, e2, l3, e3, l4, e4), []func(){func() { spoil(reflect.ValueOf(l)) }, func() { spoil(reflect.ValueOf(l2)) }, func() { spoil(reflect.ValueOf(l3)) }, func() { spoil(reflect.ValueOf(l4)) }}
	}
	first, _ := ask()
	for i := range 4 {
		again, spoils := ask()
		if again != first {
			t.Fatalf("%s: asked again: %s; want %s", before, again, first)
		}
		spoils[i]()
		if after := whole(a) + whole(in) + whole(rows); after != before {
			t.Fatalf("%s: written over with what was told: %s", before, after)
		}
	}
	// No two rows of one answer share their memory.
	for _, told := range []func() ([][]api.Value, api.Errno){func() ([][]api.Value, api.Errno) { return Answer(a, in) }, func() ([][]api.Value, api.Errno) { return Choose(a, rows) }} {
		l, _ := told()
		for i := range l {
			c := copyOf(l)
			spoil(reflect.ValueOf(l[i]))
			for k := range l {
				if k > i && !slices.Equal(l[k], c[k]) {
					t.Errorf("%s: row %d shares memory with row %d", before, k, i)
				}
			}
		}
	}
}

// room tells a copy whose lists have room behind their last part.
func room[T any](v T) T {
	c := copyOf(v)
	l := parts(reflect.ValueOf(&c).Elem())
	slices.Reverse(l)
	for _, p := range l {
		if p.Kind() == reflect.Slice && p.Len() > 0 {
			n := p.Len()
			p.Set(reflect.AppendSlice(p, reflect.MakeSlice(p.Type(), 2, 2)).Slice(0, n))
		}
	}
	return c
}

// whole writes all that v has, also what its lists have room for.
func whole(v any) string {
	var s strings.Builder
	var write func(v reflect.Value)
	write = func(v reflect.Value) {
		switch v.Kind() {
		case reflect.Struct:
			for i := range v.NumField() {
				write(v.Field(i))
			}
		case reflect.Slice:
			fmt.Fprint(&s, " of ", v.Len(), ":")
			for i := range v.Cap() {
				write(v.Slice(0, v.Cap()).Index(i))
			}
		default:
			fmt.Fprintf(&s, " %#v", v)
		}
	}
	write(reflect.ValueOf(v))
	return s.String()
}

// spoil writes over all of a list, and over what it has room for.
func spoil(v reflect.Value) {
	for i := range v.Len() {
		if v.Index(i).Kind() == reflect.Slice {
			spoil(v.Index(i))
		}
	}
	if v.Cap() > 0 {
		_ = reflect.AppendSlice(v.Slice(0, 0), reflect.MakeSlice(v.Type(), v.Cap(), v.Cap()))
	}
}
