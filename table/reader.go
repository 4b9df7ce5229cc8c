package table

import (
	"slices"
	"strings"

	"witan/api"
	"witan/reading"
)

// maxValues is how many values a priority has, at most.
const maxValues = 32

// reader reads a table's parts out of its words.
type reader struct {
	*reading.Words
}

func (r *reader) table() api.Table {
	t := api.Table{At: r.Place()}
	r.Take("table")
	t.Name = r.Name()
	t.Policy = r.policy()
	if t.Policy == api.PolPriority {
		t.Order = r.values()
	}
	r.Take("in")
	t.In = r.slots(api.MaxIns, "out")
	r.Take("out")
	t.Out = r.slots(api.MaxOuts, "row", "end")
	ended := func() bool { return r.Is("end") }
	r.Several(0, api.MaxRows, ended, func() { t.Rows = append(t.Rows, r.row(len(t.In), len(t.Out))) })
	r.Take("end")
	return t
}

func (r *reader) policy() uint8 {
	p := policyOf(r.Quoted())
	if p == 0 {
		r.GiveUp(api.ErrForm)
	}
	r.Pass()
	return p
}

// values reads those of priority, up to the inputs.
func (r *reader) values() []api.Value {
	var l []api.Value
	ended := func() bool { return r.Is("in") }
	r.Several(1, maxValues, ended, func() { l = append(l, r.value()) })
	return l
}

// value leaves all int64 to what is negative: a word's number is not below 0.
func (r *reader) value() api.Value {
	switch {
	case r.Took("-"):
		v := r.literal(api.TokNumber)
		v.N = -v.N
		return v
	case r.Took("true"):
		return api.Value{Kind: api.Bool, N: 1}
	case r.Took("false"):
		return api.Value{Kind: api.Bool}
	}
	return r.literal(api.TokNumber, api.TokString, api.TokSym)
}

// literal tells the value of the next word, which has to be of one of those
// kinds, and goes on behind it.
func (r *reader) literal(kinds ...uint8) api.Value {
	if !slices.Contains(kinds, r.Word().Kind) {
		r.GiveUp(api.ErrForm)
	}
	v := r.Pass().V
	v.S = strings.Clone(v.S)
	return v
}

// slots reads the slots up to one of those words.
func (r *reader) slots(most int, behind ...string) []api.Slot {
	var l []api.Slot
	ended := func() bool { return r.Is(behind...) }
	r.Several(1, most, ended, func() { l = append(l, r.Slot()) })
	return l
}

func (r *reader) row(ins, outs int) api.Row {
	x := api.Row{At: r.Place()}
	r.Take("row")
	r.justSo(ins, func() { x.Tests = append(x.Tests, r.Test()) })
	r.Take(":")
	r.justSo(outs, func() { x.Outs = append(x.Outs, r.Expr()) })
	return x
}

// justSo reads so many one by one, with commas between; it gives up where
// there are fewer or more.
func (r *reader) justSo(many int, one func()) {
	for n := range many {
		if n > 0 && !r.Took(",") {
			r.GiveUp(api.ErrMany)
		}
		one()
	}
	if r.Took(",") {
		r.GiveUp(api.ErrMany)
	}
}
