package table

import (
	"slices"

	"witan/api"
	"witan/etype"
	"witan/template"
	"witan/unary"
)

// headFault tells what is met first that is wrong ahead of the rows of a table
// that has a text.
func headFault(t api.Table) api.Errno {
	if hasTwice(t.In) || hasTwice(t.Out) {
		return api.ErrTwice
	}
	switch t.Policy {
	case api.PolSum:
		return sumFault(t.Out)
	case api.PolMin, api.PolMax:
		return onlyFault(t.Out)
	case api.PolPriority:
		return orderFault(t.Order, t.Out[0].Kind)
	}
	return api.OK
}

// hasTwice tells whether two slots have one name.
func hasTwice(l []api.Slot) bool {
	for i, x := range l {
		if template.Slot(api.Template{Slots: l}, x.Name) < i {
			return true
		}
	}
	return false
}

func sumFault(out []api.Slot) api.Errno {
	if e := onlyFault(out); e != api.OK {
		return e
	}
	if kind := out[0].Kind; kind != api.Int && kind != api.Dec {
		return api.ErrKind
	}
	return api.OK
}

// onlyFault tells what is wrong with outputs of which there has to be one.
func onlyFault(out []api.Slot) api.Errno {
	if len(out) != 1 {
		return api.ErrMany
	}
	return api.OK
}

// orderFault looks at all values' kinds ahead of any two that are the same.
func orderFault(order []api.Value, kind uint8) api.Errno {
	if slices.ContainsFunc(order, func(v api.Value) bool { return v.Kind != kind }) {
		return api.ErrKind
	}
	for i, v := range order {
		if slices.Contains(order[:i], v) {
			return api.ErrTwice
		}
	}
	return api.OK
}

// rowFault tells what is met first that is wrong in a row, and its place.
func rowFault(t api.Table, r api.Row) (api.Place, api.Errno) {
	for i, x := range r.Tests {
		if at, e := unary.Check(x, api.Scope{Self: t.In[i].Kind}); e != api.OK {
			return at, e
		}
	}
	for i, x := range r.Outs {
		kind, at, e := etype.Of(x, api.Scope{Vars: t.In})
		if e != api.OK {
			return at, e
		}
		if kind != t.Out[i].Kind && kind != api.Null {
			return r.At, api.ErrKind
		}
	}
	return api.Place{}, api.OK
}
