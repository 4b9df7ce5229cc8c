package hit

import (
	"fmt"
	"math/big"
	"math/rand"
	"slices"
	"sort"
	"strings"
	"testing"

	"witan/api"
)

// The model knows of each test and each expression that it writes what is told
// of it, and asks no layer below.

// asked is a text, and what it tells of the inputs x:int y:str d:dec b:bool.
type asked struct {
	text   string
	passes func(v api.Value) bool
	tells  func(in []api.Value) (api.Value, api.Errno)
}

func number(n int64) api.Value { return api.Value{Kind: api.Int, N: n} }

func units(n int64) api.Value { return api.Value{Kind: api.Dec, N: n} }

func text(s string) api.Value { return api.Value{Kind: api.Str, S: s} }

func truth(is bool) api.Value {
	v := api.Value{Kind: api.Bool}
	if is {
		v.N = 1
	}
	return v
}

// some is for tests that Null does not pass.
func some(passes func(v api.Value) bool) func(v api.Value) bool {
	return func(v api.Value) bool { return v.Kind != api.Null && passes(v) }
}

func passesAll(is bool) func(api.Value) bool { return func(api.Value) bool { return is } }

// testsOf are tests of the four inputs.
func testsOf(input int) []asked {
	any := []asked{
		{text: "-", passes: passesAll(true)},
		{text: "-", passes: passesAll(true)},
		{text: "null", passes: func(v api.Value) bool { return v.Kind == api.Null }},
		{text: "not(null)", passes: func(v api.Value) bool { return v.Kind != api.Null }},
	}
	return append(any, [][]asked{
		{
			{text: "> 1", passes: some(func(v api.Value) bool { return v.N > 1 })},
			{text: "<= 2", passes: some(func(v api.Value) bool { return v.N <= 2 })},
			{text: "[0 .. 3)", passes: some(func(v api.Value) bool { return 0 <= v.N && v.N < 3 })},
			{text: "not(1, 2)", passes: some(func(v api.Value) bool { return v.N != 1 && v.N != 2 })},
			{text: "6 / ?", passes: some(func(v api.Value) bool { return v.N != 0 && 6/v.N == v.N })},
			{text: "> 0.5", passes: some(func(v api.Value) bool { return v.N > 0 })},
			{text: "not(not(2, null))", passes: func(v api.Value) bool { return v.Kind == api.Null || v.N == 2 }},
			{text: "= 1 / 0", passes: passesAll(false)},
			{text: "not(= 1 / 0)", passes: passesAll(false)},
		},
		{
			{text: `"a"`, passes: some(func(v api.Value) bool { return v.S == "a" })},
			{text: `>= "b"`, passes: some(func(v api.Value) bool { return v.S >= "b" })},
			{text: "upper(?)", passes: some(func(v api.Value) bool { return v.S == strings.ToUpper(v.S) })},
			{text: `not("a", "b")`, passes: some(func(v api.Value) bool { return v.S != "a" && v.S != "b" })},
		},
		{
			{text: "< 1.5", passes: some(func(v api.Value) bool { return v.N < 15000 })},
			{text: "(-1 .. 2]", passes: some(func(v api.Value) bool { return -10000 < v.N && v.N <= 20000 })},
			{text: "abs(?)", passes: some(func(v api.Value) bool { return v.N >= 0 })},
		},
		{
			{text: "true", passes: some(func(v api.Value) bool { return v.N == 1 })},
			{text: "not(true)", passes: some(func(v api.Value) bool { return v.N == 0 })},
		},
	}[input]...)
}

// of is for expressions that tell what they are told of one input, if it is
// not Null.
func of(input int, tells func(v api.Value) (api.Value, api.Errno)) func(in []api.Value) (api.Value, api.Errno) {
	return func(in []api.Value) (api.Value, api.Errno) {
		if in[input].Kind == api.Null {
			return api.Value{}, api.OK
		}
		return tells(in[input])
	}
}

func just(v api.Value) func(in []api.Value) (api.Value, api.Errno) {
	return func([]api.Value) (api.Value, api.Errno) { return v, api.OK }
}

// exprsOf are expressions of a kind.
func exprsOf(kind uint8) []asked {
	any := []asked{{text: "null", tells: just(api.Value{})}}
	itself := func(v api.Value) (api.Value, api.Errno) { return v, api.OK }
	const most = 1<<63 - 1
	return append(any, [][]asked{
		{
			{text: "1", tells: just(number(1))},
			{text: "2", tells: just(number(2))},
			{text: "2", tells: just(number(2))},
			{text: "?x", tells: of(0, itself)},
			{text: "6 / ?x", tells: of(0, func(v api.Value) (api.Value, api.Errno) {
				if v.N == 0 {
					return api.Value{}, api.ErrDiv
				}
				return number(6 / v.N), api.OK
			})},
			{text: "9223372036854775807 - ?x", tells: of(0, func(v api.Value) (api.Value, api.Errno) {
				if v.N < 0 {
					return api.Value{}, api.ErrOver
				}
				return number(most - v.N), api.OK
			})},
		},
		{
			{text: "1.5", tells: just(units(15000))},
			{text: "-0.5", tells: just(units(-5000))},
			{text: "922337203685477.5807", tells: just(units(most))},
			{text: "?d", tells: of(2, itself)},
			{text: "?d * 2", tells: of(2, func(v api.Value) (api.Value, api.Errno) { return units(v.N * 2), api.OK })},
			{text: "?x / 1.0", tells: of(0, func(v api.Value) (api.Value, api.Errno) { return units(v.N * 10000), api.OK })},
		},
		{
			{text: `"a"`, tells: just(text("a"))},
			{text: `""`, tells: just(text(""))},
			{text: "?y", tells: of(1, itself)},
			{text: "upper(?y)", tells: of(1, func(v api.Value) (api.Value, api.Errno) { return text(strings.ToUpper(v.S)), api.OK })},
		},
		{
			{text: "true", tells: just(truth(true))},
			{text: "?b", tells: of(3, itself)},
			{text: "?x > 1", tells: of(0, func(v api.Value) (api.Value, api.Errno) { return truth(v.N > 1), api.OK })},
			{text: "1 / ?x = 1", tells: of(0, func(v api.Value) (api.Value, api.Errno) {
				if v.N == 0 {
					return api.Value{}, api.ErrDiv
				}
				return truth(v.N == 1), api.OK
			})},
		},
		{
			{text: "#a", tells: just(api.Value{Kind: api.Sym, S: "a"})},
			{text: "#b", tells: just(api.Value{Kind: api.Sym, S: "b"})},
			{text: "if(?b, #a, #c)", tells: of(3, func(v api.Value) (api.Value, api.Errno) {
				return api.Value{Kind: api.Sym, S: []string{"c", "a"}[v.N]}, api.OK
			})},
		},
	}[kind-1]...)
}

// written is a table that was made, and its text.
type written struct {
	text   string
	policy int
	order  []api.Value
	kinds  []uint8
	tests  [][]asked
	outs   [][]asked
}

var (
	names  = []string{"", "int", "dec", "str", "bool", "sym"}
	orders = []string{"", "2 1 -3 6", "1.5 -0.5", `"A" "a" ""`, "true", "#b #c"}
)

// write makes a table of at most that many rows by chance.
func write(r *rand.Rand, most int) written {
	w := written{policy: 1 + r.Intn(10)}
	size := 1 + r.Intn(4)
	word := strings.TrimSuffix(policyWords()[w.policy], " 2 1")
	if word == "sum" || word == "min" || word == "max" {
		size = 1
	}
	for range size {
		w.kinds = append(w.kinds, uint8(1+r.Intn(5)))
	}
	if word == "sum" {
		w.kinds[0] = uint8(1 + r.Intn(2))
	}
	if word == "priority" {
		word += " " + orders[w.kinds[0]]
		w.order = values(orders[w.kinds[0]])
	}
	w.text = "table t " + word + " in x:int y:str d:dec b:bool out"
	for i, k := range w.kinds {
		w.text += fmt.Sprintf(" o%d:%s", i, names[k])
	}
	for range min(most, []int{r.Intn(3), r.Intn(6), r.Intn(6), r.Intn(33)}[r.Intn(4)]) {
		w.row(r)
	}
	w.text += " end"
	return w
}

func (w *written) row(r *rand.Rand) {
	var tests, outs []asked
	var l, l2 []string
	for i := range 4 {
		x := testsOf(i)
		x = append(x, x[:1]...) // most rows pass, so that many do
		x = append(x, x[0], x[0], x[0], x[0], x[0], x[0])
		tests = append(tests, x[r.Intn(len(x))])
		l = append(l, tests[i].text)
	}
	for i, k := range w.kinds {
		x := exprsOf(k)
		outs = append(outs, x[r.Intn(min(len(x), 2+r.Intn(10)))])
		l2 = append(l2, outs[i].text)
	}
	w.tests, w.outs = append(w.tests, tests), append(w.outs, outs)
	w.text += " row " + strings.Join(l, ", ") + " : " + strings.Join(l2, ", ")
}

func (w *written) passing(in []api.Value) []int {
	var l []int
	for i, tests := range w.tests {
		n := 0
		for k, x := range tests {
			if x.passes(in[k]) {
				n++
			}
		}
		if n == len(tests) {
			l = append(l, i)
		}
	}
	return l
}

func (w *written) outputs(row int, in []api.Value) ([]api.Value, api.Errno) {
	l := make([]api.Value, len(w.outs[row]))
	for i := len(l) - 1; i >= 0; i-- {
		if _, e := w.outs[row][i].tells(in); e != api.OK {
			// Those ahead may have an error that is told ahead of it.
			for _, x := range w.outs[row][:i] {
				if _, e2 := x.tells(in); e2 != api.OK {
					return nil, e2
				}
			}
			return nil, e
		}
		l[i], _ = w.outs[row][i].tells(in)
	}
	return l, api.OK
}

func (w *written) answer(in []api.Value) ([][]api.Value, api.Errno) {
	var rows [][]api.Value
	for _, row := range w.passing(in) {
		l, e := w.outputs(row, in)
		if e != api.OK {
			return nil, e
		}
		if rows = append(rows, l); w.policy == 2 {
			break
		}
	}
	return w.choose(rows)
}

// choose is handed rows that fit.
func (w *written) choose(rows [][]api.Value) ([][]api.Value, api.Errno) {
	unlike := map[string]bool{}
	var l []api.Value
	for _, row := range rows {
		unlike[fmt.Sprintf("%#v", row)] = true
		if row[0].Kind != api.Null {
			l = append(l, row[0])
		}
	}
	sort.Slice(l, func(i, k int) bool { return l[i].N < l[k].N || l[i].N == l[k].N && l[i].S < l[k].S })
	switch w.policy {
	case 1, 4:
		if w.policy == 1 && len(rows) > 1 || len(unlike) > 1 {
			return nil, api.ErrTwice
		}
		return rows[:len(unlike)], api.OK
	case 2, 3:
		for _, v := range w.order {
			for i, row := range rows {
				if row[0] == v {
					return rows[i : i+1], api.OK
				}
			}
		}
		return rows[:min(1, len(rows))], api.OK
	case 5, 6:
		return rows, api.OK
	case 7:
		return w.sum(rows)
	case 10:
		return [][]api.Value{{number(int64(len(rows)))}}, api.OK
	}
	if len(l) == 0 {
		return [][]api.Value{{{}}}, api.OK
	}
	if w.policy == 8 {
		return [][]api.Value{l[:1]}, api.OK
	}
	return [][]api.Value{l[len(l)-1:]}, api.OK
}

func (w *written) sum(rows [][]api.Value) ([][]api.Value, api.Errno) {
	n := new(big.Int)
	var kind uint8
	for _, row := range rows {
		if n.Add(n, big.NewInt(row[0].N)); !n.IsInt64() {
			return nil, api.ErrOver
		}
		kind = max(kind, row[0].Kind)
	}
	return [][]api.Value{{{Kind: kind, N: n.Int64()}}}, api.OK
}

// anyInputs make inputs that fit.
func anyInputs(r *rand.Rand) []api.Value {
	in := []api.Value{number(int64(r.Intn(6) - 1)), text([]string{"", "a", "A", "b", "cd"}[r.Intn(5)]), units(int64(r.Intn(9)-4) * 5000), truth(r.Intn(2) == 0)}
	for i := range in {
		if r.Intn(8) == 0 {
			in[i] = api.Value{}
		}
	}
	return in
}

// anyValue makes one of a kind, or Null.
func anyValue(r *rand.Rand, kind uint8) api.Value {
	if r.Intn(6) == 0 {
		return api.Value{}
	}
	switch kind {
	case api.Int, api.Dec:
		return api.Value{Kind: kind, N: []int64{-3, 1, 2, 6, 15000, -5000, 1 << 62, -1 << 63, 1<<63 - 1}[r.Intn(4+r.Intn(6))]}
	case api.Bool:
		return truth(r.Intn(2) == 0)
	}
	return api.Value{Kind: kind, S: []string{"a", "b", "c", "a1", "b1"}[r.Intn(5)]}
}

// P16.1 to P16.3: tables and inputs by chance are answered as the model does.
func TestAnswersByChance(t *testing.T) {
	r := rand.New(rand.NewSource(16))
	rows, errors := map[int]int{}, map[string]int{}
	for range 900 {
		w := write(r, 32)
		a := tableOf(t, w.text)
		for range 2 {
			in := anyInputs(r)
			l, e := Passing(a, in)
			want := w.passing(in)
			if e != api.OK || fmt.Sprint(l) != fmt.Sprint(want) {
				t.Fatalf("Passing(%s, %v) = %v, %d; want %v", w.text, in, l, e, want)
			}
			rows[len(l)]++
			for row := range w.outs {
				if r.Intn(len(w.outs)) > 2 {
					continue
				}
				l, e := Outputs(a, row, in)
				want, e2 := w.outputs(row, in)
				if e != e2 || !slices.Equal(l, want) || e != api.OK && l != nil {
					t.Errorf("row %d of %s, %v: %v, %d; want %v, %d", row, w.text, in, l, e, want, e2)
				}
			}
			got, e := Answer(a, in)
			told, e2 := w.answer(in)
			holdRows(t, got, e, told, e2, "Answer(%s, %v)", w.text, in)
			errors[fmt.Sprint(w.policy, " ", e)]++
		}
		if t.Failed() {
			break
		}
	}
	for n := range 6 {
		if rows[n] < 25 {
			t.Errorf("%d rows pass too seldom: %d", n, rows[n])
		}
	}
	for p := 1; p <= 10; p++ {
		if errors[fmt.Sprint(p, " ", api.OK)] < 50 || errors[fmt.Sprint(p, " ", api.ErrDiv)] < 1 {
			t.Errorf("policy %d tells too few answers, or errors: %v", p, errors)
		}
	}
}

// P16.2: rows by chance, also such that no table has, are chosen from as the
// model does; one value that is none of its output's is told.
func TestChoicesByChance(t *testing.T) {
	r := rand.New(rand.NewSource(2))
	for range 2500 {
		w := write(r, r.Intn(2))
		a := tableOf(t, w.text)
		for range 4 {
			var rows [][]api.Value
			same := r.Intn(3) == 0
			for range []int{r.Intn(4), r.Intn(8), r.Intn(70)}[r.Intn(3)] {
				var row []api.Value
				for _, k := range w.kinds {
					row = append(row, anyValue(r, k))
				}
				if same && len(rows) > 0 && r.Intn(20) > 0 {
					row = append([]api.Value(nil), rows[0]...)
				}
				rows = append(rows, row)
			}
			l, e := Choose(a, rows)
			want, e2 := w.choose(rows)
			holdRows(t, l, e, want, e2, "Choose(%s, %v)", w.text, rows)
			if len(rows) == 0 {
				continue
			}
			row := r.Intn(len(rows))
			i := r.Intn(len(w.kinds))
			switch r.Intn(4) {
			case 0:
				rows[row] = append(rows[row], api.Value{})
			case 1:
				rows[row] = rows[row][:i]
			case 2:
				rows[row][i] = mayNot()[r.Intn(len(mayNot()))]
			case 3:
				rows[row][i] = values(`1 1.0 "a" true #a`)[(int(w.kinds[i])+r.Intn(4))%5]
			}
			l, e = Choose(a, rows)
			holdRows(t, l, e, nil, api.ErrArg, "Choose(%s, %v)", w.text, rows)
		}
		if t.Failed() {
			break
		}
	}
}
