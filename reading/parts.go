package reading

import (
	"witan/api"
	"witan/expr"
	"witan/template"
	"witan/unary"
)

// Several reads one by one, until what ends them is met behind the least; it
// gives up where the most stand, and are not ended.
func (w *Words) Several(least, most int, ended func() bool, one func()) {
	for n := 0; n < least || !ended(); n++ {
		if n == most {
			w.GiveUp(api.ErrMany)
		}
		one()
	}
}

// Slot reads a slot's name and its kind's.
func (w *Words) Slot() api.Slot {
	s := api.Slot{Name: w.Name()}
	w.Take(":")
	kind, ok := template.Kind(w.Quoted())
	if !ok {
		w.GiveUp(api.ErrForm)
	}
	w.Pass()
	s.Kind = kind
	return s
}

// Expr reads layer 7's.
func (w *Words) Expr() api.Expr {
	x, next, e := expr.Parse(w.list, w.next)
	w.reach(next, e)
	return x
}

// Tests reads layer 11's, as long as they are.
func (w *Words) Tests() api.Tests {
	t, next, e := unary.Parse(w.list, w.next)
	w.reach(next, e)
	return t
}

// Test reads one of layer 11's alone.
func (w *Words) Test() api.Tests {
	t, next, e := unary.One(w.list, w.next)
	w.reach(next, e)
	return t
}
