package hit

import (
	"slices"

	"witan/api"
	"witan/value"
)

// policy is how a table's answer is told out of its rows.
type policy struct {
	// asked tells which of the rows that pass are asked for their outputs.
	asked  func(rows []int) []int
	choose choice
}

// choice tells the answer out of the outputs of rows; it may share its memory
// with them.
type choice func(rows [][]api.Value) ([][]api.Value, api.Errno)

// policyOf is handed a table that may be: its policy is one of them.
func policyOf(t api.Table) policy { return policies(t.Order)[t.Policy] }

// policies are by their numbers; order is that of priority.
func policies(order []api.Value) map[uint8]policy {
	return map[uint8]policy{
		api.PolUnique:   {asked: all[int], choose: unlessMore},
		api.PolFirst:    {asked: first[int], choose: always(first[[]api.Value])},
		api.PolPriority: {asked: all[int], choose: always(ahead(order))},
		api.PolAny:      {asked: all[int], choose: unlessOthers},
		api.PolOrder:    {asked: all[int], choose: always(all[[]api.Value])},
		api.PolCollect:  {asked: all[int], choose: always(all[[]api.Value])},
		api.PolSum:      {asked: all[int], choose: single(value.Add)},
		api.PolMin:      {asked: all[int], choose: single(outermost(-1))},
		api.PolMax:      {asked: all[int], choose: single(outermost(1))},
		api.PolCount:    {asked: all[int], choose: always(count)},
	}
}

// chosen tells what the policy chooses, in memory of its own.
func (p policy) chosen(rows [][]api.Value) ([][]api.Value, api.Errno) {
	l, e := p.choose(rows)
	if e != api.OK {
		return nil, e
	}
	var own [][]api.Value
	for _, row := range l {
		own = append(own, slices.Clone(row))
	}
	return own, api.OK
}

// always is for what no rows keep from an answer.
func always(choose func(rows [][]api.Value) [][]api.Value) choice {
	return func(rows [][]api.Value) ([][]api.Value, api.Errno) { return choose(rows), api.OK }
}

func all[T any](l []T) []T { return l }

// first tells the first one alone, if there is one.
func first[T any](l []T) []T { return l[:min(len(l), 1)] }

func unlessMore(rows [][]api.Value) ([][]api.Value, api.Errno) {
	if len(rows) > 1 {
		return nil, api.ErrTwice
	}
	return rows, api.OK
}

func unlessOthers(rows [][]api.Value) ([][]api.Value, api.Errno) {
	for _, row := range rows {
		if !slices.Equal(row, rows[0]) {
			return nil, api.ErrTwice
		}
	}
	return first(rows), api.OK
}

// ahead tells the first one of the rows whose first value stands first in the
// order; what does not stand in it is behind all that does.
func ahead(order []api.Value) func(rows [][]api.Value) [][]api.Value {
	place := func(row []api.Value) int {
		if i := slices.Index(order, row[0]); i >= 0 {
			return i
		}
		return len(order)
	}
	return func(rows [][]api.Value) [][]api.Value {
		best := first(rows)
		for _, row := range rows {
			if place(row) < place(best[0]) {
				best = [][]api.Value{row}
			}
		}
		return best
	}
}

func count(rows [][]api.Value) [][]api.Value {
	return [][]api.Value{{{Kind: api.Int, N: int64(len(rows))}}}
}

// single tells one value, joined of the first ones of all rows but those that
// are Null, two by two; Null, if there are none.
func single(join func(a, b api.Value) (api.Value, api.Errno)) choice {
	return func(rows [][]api.Value) ([][]api.Value, api.Errno) {
		var v api.Value
		for _, row := range rows {
			next, e := joined(v, row[0], join)
			if e != api.OK {
				return nil, e
			}
			v = next
		}
		return [][]api.Value{{v}}, api.OK
	}
}

// joined passes over what is Null.
func joined(a, b api.Value, join func(a, b api.Value) (api.Value, api.Errno)) (api.Value, api.Errno) {
	switch api.Null {
	case a.Kind:
		return b, api.OK
	case b.Kind:
		return a, api.OK
	}
	return join(a, b)
}

// outermost tells the least one of two values (side -1), the greatest one (1).
func outermost(side int) func(a, b api.Value) (api.Value, api.Errno) {
	return func(a, b api.Value) (api.Value, api.Errno) {
		if value.Order(b, a) == side {
			return b, api.OK
		}
		return a, api.OK
	}
}
