package desugar

import (
	"strconv"

	"witan/api"
	"witan/own"
)

// The names of a program's templates, and their places in it.
const (
	inputsName  = "inputs"
	hitName     = "hit"
	inputsPlace = 0
	hitPlace    = 1
)

// numbered tells names of one letter and a number, from 1 on.
func numbered(letter string, many int) []string {
	var l []string
	for i := range many {
		l = append(l, letter+strconv.Itoa(i+1))
	}
	return l
}

func templates(t api.Table) []api.Template {
	row := api.Slot{Name: "n", Kind: api.Int}
	return []api.Template{
		inputsPlace: {Name: inputsName, Slots: slots("i", t.In)},
		hitPlace:    {Name: hitName, Slots: append([]api.Slot{row}, slots("o", t.Out)...)},
	}
}

// slots tells slots of the kinds of the table's, with names of their own.
func slots(letter string, l []api.Slot) []api.Slot {
	var own []api.Slot
	for i, name := range numbered(letter, len(l)) {
		own = append(own, api.Slot{Name: name, Kind: l[i].Kind})
	}
	return own
}

// ruleOf tells the rule of the i-th row, from 0 on.
func ruleOf(t api.Table, i int) api.Rule {
	row, number := t.Rows[i], i+1
	r := api.Rule{
		Name:     "r" + strconv.Itoa(number),
		Salience: -number,
		Conds:    []api.Cond{inputsPass(row.Tests), inputsPass(variables(t.In))},
		Acts:     []api.Action{assertHit(number, row.Outs)},
	}
	if t.Policy == api.PolFirst {
		r.Acts = append(r.Acts, api.Action{Kind: api.ActHalt})
	}
	return r
}

// inputsPass is the condition that the inputs' fact passes those tests.
func inputsPass(tests []api.Tests) api.Cond {
	p := api.Pattern{T: inputsName}
	for i, name := range numbered("i", len(tests)) {
		p.Slots = append(p.Slots, api.SlotTest{Slot: name, Test: own.Tests(tests[i])})
	}
	return api.Cond{Kind: api.CondIs, Patterns: []api.Pattern{p}}
}

// variables tells the tests that bind the inputs' names. They take a pattern of
// their own: a slot stands in one pattern once, and a row's test is there.
func variables(in []api.Slot) []api.Tests {
	var l []api.Tests
	for _, s := range in {
		l = append(l, api.Tests{{Op: api.TestEq, A: api.Expr{{Op: api.OpVar, Name: s.Name}}}})
	}
	return l
}

// assertHit is the action that tells a row's number and its outputs.
func assertHit(number int, outs []api.Expr) api.Action {
	n := api.Value{Kind: api.Int, N: int64(number)}
	a := api.Action{Kind: api.ActAssert, Name: hitName}
	a.Sets = append(a.Sets, api.Set{Slot: "n", E: api.Expr{{Op: api.OpLit, V: n}}})
	for i, name := range numbered("o", len(outs)) {
		a.Sets = append(a.Sets, api.Set{Slot: name, E: own.Expr(outs[i])})
	}
	return a
}
