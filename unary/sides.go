package unary

import "witan/api"

// comparison is a comparison's sign, and layer 10's op between self and A.
type comparison struct {
	sign string
	op   uint8
}

var comparisons = [...]comparison{
	api.TestEq: {"=", api.OpEq},
	api.TestLt: {"<", api.OpLt},
	api.TestLe: {"<=", api.OpLe},
	api.TestGt: {">", api.OpGt},
	api.TestGe: {">=", api.OpGe},
}

// comparisonOf tells the comparison of a test's op; one of no op, if that is none.
func comparisonOf(op uint8) comparison {
	if int(op) >= len(comparisons) {
		return comparison{}
	}
	return comparisons[op]
}

// side is an expression that self is held against, and the op by which it is.
type side struct {
	op uint8
	x  api.Expr
}

// sides tells what self is held against in a test, A ahead of B; nothing of a
// test that compares nothing.
func sides(n api.Test) []side {
	if n.Op == api.TestIn {
		return []side{{lowOp(n), n.A}, {highOp(n), n.B}}
	}
	if c := comparisonOf(n.Op); c.op != 0 {
		return []side{{c.op, n.A}}
	}
	return nil
}

// lowOp tells how self is held against the lower end of a range.
func lowOp(n api.Test) uint8 {
	if n.Low {
		return api.OpGt
	}
	return api.OpGe
}

// highOp tells how self is held against the upper end of a range.
func highOp(n api.Test) uint8 {
	if n.High {
		return api.OpLt
	}
	return api.OpLe
}
