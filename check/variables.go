package check

import (
	"witan/api"
	"witan/template"
	"witan/unary"
)

// variables are those that are bound, in the order in which they were.
type variables struct {
	bound []api.Slot
}

// bind binds a variable, unless it is bound already, and tells its kind.
func (v *variables) bind(name string, kind uint8) uint8 {
	for _, x := range v.bound {
		if x.Name == name {
			return x.Kind
		}
	}
	v.bound = append(v.bound, api.Slot{Name: name, Kind: kind})
	return kind
}

// bindAll binds what a pattern that is there binds, and asks nothing else of it.
func (v *variables) bindAll(l []api.Template, p api.Pattern) {
	t := template.Find(l, p.T)
	if t < 0 {
		return
	}
	for _, x := range p.Slots {
		i := template.Slot(l[t], x.Slot)
		if name, alone := unary.Var(x.Test); alone && i >= 0 {
			v.bind(name, l[t].Slots[i].Kind)
		}
	}
}

// with tells the variables beside a self of that kind, as layers 9 and 11 ask
// for them.
func (v *variables) with(self uint8) api.Scope {
	return api.Scope{Vars: v.bound, Self: self}
}
