package unary

import (
	"slices"

	"witan/api"
	"witan/etype"
)

// Check tells what is met first where the variables and self are those of s,
// and its place; api.ErrForm and no place, if t may not be.
func Check(t api.Tests, s api.Scope) (api.Place, api.Errno) {
	if !May(t) {
		return api.Place{}, api.ErrForm
	}
	for _, n := range t {
		for _, with := range sides(n) {
			kind, at, e := etype.Of(with.x, s)
			if e != api.OK {
				return at, e
			}
			if !compares(with.op, s.Self, kind) {
				return n.At, api.ErrKind
			}
		}
	}
	return api.Place{}, api.OK
}

// compares leaves it to layer 9 whether an op takes self and what is of that
// kind. It takes no self of kind Null: there is none then.
func compares(op, self, kind uint8) bool {
	x := api.Expr{{Op: api.OpSelf}, {Op: api.OpVar, Name: "a"}, {Op: op, Kids: []int{0, 1}}}
	_, _, e := etype.Of(x, api.Scope{Vars: []api.Slot{{Name: "a", Kind: kind}}, Self: self})
	return e == api.OK
}

// Names tells the names of the variables that t has, each once, test by test;
// none of what may not be.
func Names(t api.Tests) []string {
	if !May(t) {
		return nil
	}
	var l []string
	for _, n := range t {
		for _, with := range sides(n) {
			for _, name := range etype.Names(with.x) {
				if !slices.Contains(l, name) {
					l = append(l, name)
				}
			}
		}
	}
	return l
}
