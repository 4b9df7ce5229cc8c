package table

import (
	"witan/api"
	"witan/eprint"
	"witan/tell"
	"witan/unary"
	"witan/vtext"
)

func lines(t api.Table) tell.Part {
	value := func(v api.Value) tell.Part { return tell.Said(" ", vtext.Text(v)) }
	return tell.All(
		tell.Line(tell.Said("table ", t.Name, " ", policyWord(t.Policy)), tell.Listed(t.Order, "", value)),
		tell.Line(tell.Said("in"), tell.Slots(t.In)),
		tell.Line(tell.Said("out"), tell.Slots(t.Out)),
		tell.Listed(t.Rows, "", rowLine),
		tell.Line(tell.Said("end")),
	)
}

func rowLine(r api.Row) tell.Part {
	test := func(x api.Tests) tell.Part { return tell.Asked(unary.Text(x)) }
	out := func(x api.Expr) tell.Part { return tell.Asked(eprint.Text(x)) }
	return tell.Line(tell.Said("row "), tell.Listed(r.Tests, ", ", test), tell.Said(" : "), tell.Listed(r.Outs, ", ", out))
}
