package desugar

import "witan/api"

// owned tells a list in memory of its own. It is not cloned by slices.Clone,
// which keeps hold of the array behind a list without parts.
func owned[T any](l []T) []T { return append([]T(nil), l...) }

func ownedTests(l api.Tests) api.Tests {
	own := owned(l)
	for i, n := range own {
		own[i].A, own[i].B, own[i].Kids = ownedExpr(n.A), ownedExpr(n.B), owned(n.Kids)
	}
	return own
}

func ownedExpr(x api.Expr) api.Expr {
	own := owned(x)
	for i, n := range own {
		own[i].Kids = owned(n.Kids)
	}
	return own
}
