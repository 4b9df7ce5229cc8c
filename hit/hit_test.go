package hit

import (
	"fmt"
	"slices"
	"strings"
	"testing"

	"witan/api"
	"witan/table"
	"witan/vtext"
)

// one tells the value of a text.
func one(text string) api.Value {
	v, e := vtext.Parse(text)
	if e != api.OK {
		panic("no value's text: " + text)
	}
	return v
}

// values tells those of texts with a blank between.
func values(s string) []api.Value {
	var l []api.Value
	for _, w := range strings.Fields(s) {
		l = append(l, one(w))
	}
	return l
}

// rowsOf tells rows of values, between which a "/" stands.
func rowsOf(s string) [][]api.Value {
	if s == "" {
		return nil
	}
	var l [][]api.Value
	for _, row := range strings.Split(s, "/") {
		l = append(l, values(row))
	}
	return l
}

// tableOf tells the table of a text; it may be.
func tableOf(t testing.TB, s string) api.Table {
	t.Helper()
	a, at, e := table.Parse(s)
	if e != api.OK || !table.May(a) {
		t.Fatalf("%.2000s: %v, %d", s, at, e)
	}
	return a
}

// holdRows asks that an answer is these rows, or has that error and nothing
// beside it.
func holdRows(t *testing.T, l [][]api.Value, e api.Errno, want [][]api.Value, wantE api.Errno, what string, args ...any) {
	t.Helper()
	if e != wantE || !slices.EqualFunc(l, want, slices.Equal[[]api.Value]) || e != api.OK && l != nil {
		t.Errorf("%.3000s: %v, %d; want %v, %d", fmt.Sprintf(what, args...), l, e, want, wantE)
	}
}

// answers asks for the answer of inputs: rows' texts, or an error.
func answers(t *testing.T, a api.Table, in, want string, e api.Errno) {
	t.Helper()
	l, got := Answer(a, values(in))
	holdRows(t, l, got, rowsOf(want), e, "Answer(%v, %s)", a, in)
}

// chooses asks for the answer out of rows: rows' texts, or an error.
func chooses(t *testing.T, a api.Table, rows, want string, e api.Errno) {
	t.Helper()
	l, got := Choose(a, rowsOf(rows))
	holdRows(t, l, got, rowsOf(want), e, "Choose(%v, %s)", a, rows)
}

// holdPassing asks which rows pass.
func holdPassing(t *testing.T, a api.Table, in string, want ...int) {
	t.Helper()
	if l, e := Passing(a, values(in)); e != api.OK || !slices.Equal(l, want) {
		t.Errorf("Passing(%v, %s) = %v, %d; want %v", a, in, l, e, want)
	}
}

// holdOutputs asks for a row's outputs: their texts, or an error.
func holdOutputs(t *testing.T, a api.Table, row int, in, want string, e api.Errno) {
	t.Helper()
	l, got := Outputs(a, row, values(in))
	if got != e || !slices.Equal(l, values(want)) || e != api.OK && l != nil {
		t.Errorf("Outputs(%v, %d, %s) = %v, %d; want %s, %d", a, row, in, l, got, want, e)
	}
}

// P16.1 to P16.3: the examples of the chapter and of the document.
func TestExamples(t *testing.T) {
	two := " in x:int out y:int row > 0 : 1 row > 1 : 2 end"
	alike := " in x:int out y:int row > 0 : 1 row > 1 : 1 end"
	answers(t, tableOf(t, "table t sum"+two), "5", "3", api.OK)
	answers(t, tableOf(t, "table t unique"+two), "5", "", api.ErrTwice)
	answers(t, tableOf(t, "table t priority 2 1"+two), "5", "2", api.OK)
	answers(t, tableOf(t, "table t unique"+alike), "5", "", api.ErrTwice)
	answers(t, tableOf(t, "table t any"+alike), "5", "1", api.OK)
	answers(t, tableOf(t, "table t count"+two), "0", "0", api.OK)
	answers(t, tableOf(t, "table t sum"+two), "0", "null", api.OK)
}

// P16.1: rows pass by their tests, all of them.
func TestPassing(t *testing.T) {
	a := tableOf(t, `table t any in x:int y:str out z:int
row > 1, "a" : 1
row -, - : 2
row null, not("a") : 3
row not(1, 2), null : 4
row [1 .. 3), upper(?) : 5
row 1 / ?, > "b" : 6
row > 1, - : 1 / 0
end`)
	holdPassing(t, a, `2 "a"`, 0, 1, 6)
	holdPassing(t, a, `1 "a"`, 1)
	holdPassing(t, a, `1 "A"`, 1, 4)
	holdPassing(t, a, `3 "A"`, 1, 6)
	holdPassing(t, a, `null "b"`, 1, 2)
	holdPassing(t, a, `null null`, 1)
	holdPassing(t, a, `7 null`, 1, 3, 6)
	holdPassing(t, a, `1 "c"`, 1, 5)
	holdPassing(t, a, `0 "c"`, 1) // where 1 / 0 is an error, no row passes
	holdPassing(t, tableOf(t, "table t any in x:int out z:int end"), "1")
	holdPassing(t, tableOf(t, "table t any in x:int out z:int row 2 : 1 row null : 2 end"), "1")
	holdPassing(t, tableOf(t, "table t any in x:int out z:int row not(1 / ?) : 1 row not(not(1 / ?)) : 1 row ? / 0 : 1 row not(? / 0, -) : 1 end"), "0")
	// A test that is an error does not pass, whatever stands ahead of it or behind.
	holdPassing(t, tableOf(t, "table t any in x:int y:int out z:int row 1 / ?, - : 1 row -, 1 / ? : 1 row -, - : 1 end"), "0 0", 2)
}

// P16.1: each kind of inputs, each of four of them.
func TestPassingKinds(t *testing.T) {
	a := tableOf(t, "table t any in a:dec b:bool c:sym d:str out z:int row 1.5, -, -, - : 1 row -, true, -, - : 1 row -, -, #u, - : 1 row -, -, -, \"u\" : 1 row 1.5, true, #u, \"u\" : 1 end")
	holdPassing(t, a, `1.5 true #u "u"`, 0, 1, 2, 3, 4)
	holdPassing(t, a, `1.4 true #u "u"`, 1, 2, 3)
	holdPassing(t, a, `1.5 false #u "u"`, 0, 2, 3)
	holdPassing(t, a, `1.5 true #v "u"`, 0, 1, 3)
	holdPassing(t, a, `1.5 true #u "v"`, 0, 1, 2)
	holdPassing(t, a, `null null null null`)
	holdPassing(t, a, `null true null "u"`, 1, 3)
	// A whole number is compared with a decimal by its worth.
	holdPassing(t, tableOf(t, "table t any in x:dec out z:int row 2 : 1 row > 1 : 1 row 2.0 : 1 end"), "2.0", 0, 1, 2)
	holdPassing(t, tableOf(t, "table t any in x:int out z:int row 2 : 1 row > 1.5 : 1 row 2.0 : 1 end"), "2", 0, 1, 2)
}

// P16.1: what a row's outputs are, whether it passes or not.
func TestOutputs(t *testing.T) {
	a := tableOf(t, `table t any in x:int y:str d:dec b:bool out z:int w:str v:dec u:bool
row > 1, -, -, - : ?x + 1, upper(?y), ?d * 2, not ?b
row 9, -, -, - : null, null, null, null
row -, -, -, - : 6 / ?x, "u", 6 / ?d, ?x > 1
row -, -, -, - : ?x * 9223372036854775807, ?y, ?d, ?b
end`)
	in := `3 "a" 1.5 true`
	holdOutputs(t, a, 0, in, `4 "A" 3.0 false`, api.OK)
	holdOutputs(t, a, 1, in, `null null null null`, api.OK)
	holdOutputs(t, a, 2, in, `2 "u" 4.0 true`, api.OK)
	holdOutputs(t, a, 3, in, "", api.ErrOver)
	holdOutputs(t, a, 3, `1 "" 0.0 false`, `9223372036854775807 "" 0.0 false`, api.OK)
	holdOutputs(t, a, 0, `0 "" 0.0 false`, `1 "" 0.0 true`, api.OK)
	holdOutputs(t, a, 0, `null null null null`, `null null null null`, api.OK)
	holdOutputs(t, a, 2, `null null null null`, `null "u" null null`, api.OK)
	holdOutputs(t, a, 2, `0 "" 1.0 true`, "", api.ErrDiv)
	holdOutputs(t, a, 2, `1 "" 0.0 true`, "", api.ErrDiv) // that of the third one
	holdOutputs(t, a, 2, `null null 0.0 null`, "", api.ErrDiv)
	// The first error is told.
	b := tableOf(t, "table t any in x:int out y:int z:int w:int row 1 : ?x, 1 / (?x - 2), ?x * 9223372036854775807 row 1 : 1, ?x * 9223372036854775807, 1 / (?x - 2) end")
	holdOutputs(t, b, 0, "2", "", api.ErrDiv)
	holdOutputs(t, b, 1, "2", "", api.ErrOver)
	holdOutputs(t, b, 0, "3", "", api.ErrOver)
	holdOutputs(t, b, 0, "1", "1 -1 9223372036854775807", api.OK)
	// Symbols are handed on, too.
	holdOutputs(t, tableOf(t, "table t any in x:sym out y:sym row - : ?x end"), 0, "#abc", "#abc", api.OK)
	holdOutputs(t, tableOf(t, "table t any in x:sym y:int out y:sym z:int row -, - : ?x, ?y end"), 0, "#abc 7", "#abc 7", api.OK)
}

// P16.1: there is no row below 0, and none behind the last one.
func TestNoSuchRow(t *testing.T) {
	for n := range 4 {
		a := tableOf(t, "table t any in x:int out y:int "+strings.Repeat("row 7 : 1 ", n)+"end")
		for _, row := range []int{-1 << 63, -1 << 32, -2, -1, 0, 1, 2, 3, 4, 5, 31, 32, 1 << 32, 1<<63 - 1} {
			if 0 <= row && row < n {
				holdOutputs(t, a, row, "1", "1", api.OK)
			} else {
				holdOutputs(t, a, row, "1", "", api.ErrArg)
			}
		}
	}
}

// P16.1, P16.3: what may stand for inputs, and what may not.
func TestInputs(t *testing.T) {
	kinds := []string{"", "int", "dec", "str", "bool", "sym"}
	texts := []string{"null", "1", "1.0", `"a"`, "true", "#a"}
	for k, kind := range kinds {
		if kind == "" {
			continue
		}
		for n := 1; n <= 4; n++ {
			slots, row := "", ""
			for i := range n {
				slots += fmt.Sprintf(" x%d:%s", i, kind)
				row += ", -"
			}
			a := tableOf(t, "table t any in"+slots+" out y:int row "+row[2:]+" : 1 end")
			for size := range 7 {
				l := slices.Repeat([]api.Value{one(texts[k])}, size)
				holdInputs(t, a, l, size == n)
			}
			for i := range n {
				for k2, text := range texts {
					l := slices.Repeat([]api.Value{one(texts[k])}, n)
					l[i] = one(text)
					holdInputs(t, a, l, k2 == k || k2 == 0)
				}
				for _, v := range mayNot() {
					l := slices.Repeat([]api.Value{one(texts[k])}, n)
					l[i] = v
					holdInputs(t, a, l, false)
				}
			}
		}
	}
}

// mayNot are values that may not be, of each kind.
func mayNot() []api.Value {
	return []api.Value{
		{N: 1}, {S: "a"}, {Kind: 1, N: 1, S: "a"}, {Kind: 2, N: 1, S: "a"}, {Kind: 3, N: 1, S: "a"}, {Kind: 3, S: "\n"}, {Kind: 3, S: strings.Repeat("a", 201)}, {Kind: 4, N: 2}, {Kind: 4, N: -1}, {Kind: 4, S: "a"}, {Kind: 5}, {Kind: 5, S: "A"}, {Kind: 5, S: "abcdefghijklm"}, {Kind: 5, S: "a", N: 1}, {Kind: 6}, {Kind: 255, N: 1},
	}
}

// holdInputs asks whether inputs fit a table each row of which passes, and has
// the output 1.
func holdInputs(t *testing.T, a api.Table, in []api.Value, fit bool) {
	t.Helper()
	want, l1 := api.OK, values("1")
	if !fit {
		want, l1 = api.ErrArg, nil
	}
	if l, e := Passing(a, in); e != want || (len(l) == 1) != fit || !fit && l != nil {
		t.Errorf("Passing(%v, %v) = %v, %d; want %d", a, in, l, e, want)
	}
	if l, e := Outputs(a, 0, in); e != want || !slices.Equal(l, l1) || !fit && l != nil {
		t.Errorf("Outputs(%v, 0, %v) = %v, %d; want %d", a, in, l, e, want)
	}
	for _, row := range []int{-1, 1} {
		if l, e := Outputs(a, row, in); e != api.ErrArg || l != nil {
			t.Errorf("Outputs(%v, %d, %v) = %v, %d", a, row, in, l, e)
		}
	}
	l, e := Answer(a, in)
	if fit {
		holdRows(t, l, e, rowsOf("1"), api.OK, "Answer(%v, %v)", a, in)
	} else {
		holdRows(t, l, e, nil, api.ErrArg, "Answer(%v, %v)", a, in)
	}
}

// P16.3: errors of the rows' outputs, in their order.
func TestAnswerErrors(t *testing.T) {
	for p, word := range policyWords() {
		a := tableOf(t, "table t "+word+" in x:int out y:int row > 0 : 1 row > 1 : 1 / (?x - 2) row > 2 : ?x * 4000000000000000000 row > 3 : 1 / (?x - 4) row < 0 : 1 / 0 end")
		for x, e := range map[string]api.Errno{"1": api.OK, "2": api.ErrDiv, "3": api.ErrOver, "4": api.ErrOver, "-1": api.ErrDiv} {
			if p == int(api.PolFirst) && x != "-1" {
				answers(t, a, x, "1", api.OK)
			} else if e != api.OK {
				answers(t, a, x, "", e)
			} else {
				answers(t, a, x, "1", api.OK)
			}
		}
	}
	// An error of outputs is told ahead of the policy's.
	for _, word := range []string{"unique", "any"} {
		a := tableOf(t, "table t "+word+" in x:int out y:int row - : 1 row - : 2 row - : 6 / ?x end")
		answers(t, a, "0", "", api.ErrDiv)
		answers(t, a, "1", "", api.ErrTwice)
	}
	a := tableOf(t, "table t sum in x:int out y:int row - : 9223372036854775807 row - : 1 row - : 6 / ?x end")
	answers(t, a, "0", "", api.ErrDiv)
	answers(t, a, "1", "", api.ErrOver)
	// First asks all expressions of its first row.
	b := tableOf(t, "table t first in x:int out y:int z:int row > 1 : 1, 1 row - : 1, 6 / ?x row - : 2, 2 end")
	answers(t, b, "0", "", api.ErrDiv)
	answers(t, b, "1", "1 6", api.OK)
	answers(t, b, "2", "1 1", api.OK)
}

// policyWords are by the policies' numbers, with a list of priority's.
func policyWords() map[int]string {
	return map[int]string{1: "unique", 2: "first", 3: "priority 2 1", 4: "any", 5: "order", 6: "collect", 7: "sum", 8: "min", 9: "max", 10: "count"}
}
