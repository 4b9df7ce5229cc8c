package value

import (
	"witan/api"
	"witan/num"
)

// reckoning tells a number of two numbers.
type reckoning func(a, b api.Value) (api.Value, api.Errno)

// Add tells a + b; Null, if one is; ErrKind, ErrOver.
func Add(a, b api.Value) (api.Value, api.Errno) {
	return reckon(a, b, ofInts(num.Add), ofDecs(num.Add))
}

// Sub tells a - b; Null, if one is; ErrKind, ErrOver.
func Sub(a, b api.Value) (api.Value, api.Errno) {
	return reckon(a, b, ofInts(num.Sub), ofDecs(num.Sub))
}

// Mul tells a * b; Null, if one is; ErrKind, ErrOver.
func Mul(a, b api.Value) (api.Value, api.Errno) {
	return reckon(a, b, ofInts(num.Mul), ofDecs(num.MulDec))
}

// Div tells a / b, of two Ints rounded towards 0; Null, if one is; ErrKind, ErrOver, ErrDiv.
func Div(a, b api.Value) (api.Value, api.Errno) {
	return reckon(a, b, ofInts(num.Quo), ofDecs(num.DivDec))
}

// Neg tells 0 less a; Null, if it is; ErrKind, ErrOver.
func Neg(a api.Value) (api.Value, api.Errno) {
	return Sub(api.Value{Kind: api.Int}, a)
}

// Least tells the least one; Null, if one is, or there are none; ErrKind, ErrOver.
func Least(l ...api.Value) (api.Value, api.Errno) {
	return foremost(l, func(n, best int64) bool { return n < best })
}

// Most tells the greatest one; Null, if one is, or there are none; ErrKind, ErrOver.
func Most(l ...api.Value) (api.Value, api.Errno) {
	return foremost(l, func(n, best int64) bool { return n > best })
}

// reckon asks whole of two Ints, and decimal of two numbers else.
func reckon(a, b api.Value, whole, decimal reckoning) (api.Value, api.Errno) {
	kind, e := kindOfAll(a, b)
	if e != api.OK || kind == api.Null {
		return api.Value{}, e
	}
	if kind == api.Int {
		return whole(a, b)
	}
	return decimal(a, b)
}

// ofInts makes of one of layer 1's functions what reckons with Ints.
func ofInts(f func(a, b int64) (int64, api.Errno)) reckoning {
	return func(a, b api.Value) (api.Value, api.Errno) {
		n, e := f(a.N, b.N)
		return number(api.Int, n, e)
	}
}

// ofDecs makes of one of layer 1's functions what reckons with decimals, and
// with Ints that are made decimals first.
func ofDecs(f func(a, b int64) (int64, api.Errno)) reckoning {
	return func(a, b api.Value) (api.Value, api.Errno) {
		left, e := units(a)
		if e != api.OK {
			return api.Value{}, e
		}
		right, e := units(b)
		if e != api.OK {
			return api.Value{}, e
		}
		n, e := f(left, right)
		return number(api.Dec, n, e)
	}
}

// foremost tells the one that is ahead of all others. All are made decimals,
// if one is a Dec, also those that are not ahead: one that is too great is an error.
func foremost(l []api.Value, ahead func(n, best int64) bool) (api.Value, api.Errno) {
	kind, e := kindOfAll(l...)
	if e != api.OK || kind == api.Null {
		return api.Value{}, e
	}
	best := int64(0)
	for i, v := range l {
		n := v.N
		if kind == api.Dec {
			if n, e = units(v); e != api.OK {
				return api.Value{}, e
			}
		}
		if i == 0 || ahead(n, best) {
			best = n
		}
	}
	return number(kind, best, api.OK)
}

// kindOfAll tells the kind of what is reckoned with all of l: Null, if one is,
// or there are none; Dec, if one is; else Int. ErrKind, if one is neither.
func kindOfAll(l ...api.Value) (uint8, api.Errno) {
	kind, null := api.Int, len(l) == 0
	for _, v := range l {
		switch v.Kind {
		case api.Null:
			null = true
		case api.Int:
		case api.Dec:
			kind = api.Dec
		default:
			return api.Null, api.ErrKind
		}
	}
	if null {
		return api.Null, api.OK
	}
	return kind, api.OK
}

// units tells a number in units of a decimal, or ErrOver.
func units(v api.Value) (int64, api.Errno) {
	if v.Kind == api.Int {
		return num.Scale(v.N)
	}
	return v.N, api.OK
}

// number is made anew, as a number that was handed in may have an S.
func number(kind uint8, n int64, e api.Errno) (api.Value, api.Errno) {
	if e != api.OK {
		return api.Value{}, e
	}
	return api.Value{Kind: kind, N: n}, api.OK
}
