package table

import (
	"math/rand"
	"reflect"
	"slices"

	"witan/api"
)

// full is a table with each part that a table may have, lists of two or more:
// well-formed, and its own text.
const full = `table t priority -1 2 7
in x:int y:str
out z:int w:sym
row > 1, not("a", "b", [upper(?) .. "c")) : ?x + 1, #s
row (abs(?) .. 2], - : min(1, ?x), null
row -, "u" : 3, if(?y = "u", #a, #b)
end
`

// parts tells all that a value is made of, itself first: whatever can be set.
func parts(v reflect.Value) []reflect.Value {
	l := []reflect.Value{v}
	switch v.Kind() {
	case reflect.Struct:
		for i := range v.NumField() {
			l = append(l, parts(v.Field(i))...)
		}
	case reflect.Slice:
		for i := range v.Len() {
			l = append(l, parts(v.Index(i))...)
		}
	}
	return l
}

// partsOf tells those of a table, each time in the same order.
func partsOf(a *api.Table) []reflect.Value { return parts(reflect.ValueOf(a).Elem()) }

// ofPlaces tells of each part whether it is a place, or in one.
func ofPlaces(l []reflect.Value) []bool {
	is := make([]bool, len(l))
	for i, v := range l {
		if _, ok := v.Interface().(api.Place); ok {
			for j := range parts(v) {
				is[i+j] = true
			}
		}
	}
	return is
}

// changes tells by what one part alone is made another one.
func changes(v reflect.Value) []func() {
	switch v.Kind() {
	case reflect.String:
		var l []func()
		for _, s := range []string{"p", "not", "in", "end", "x y", v.String() + "x", v.String() + "\n", v.String() + ":", v.String() + " 1"} {
			if s != v.String() {
				l = append(l, func() { v.SetString(s) })
			}
		}
		return l
	case reflect.Int, reflect.Int64:
		return []func(){func() { v.SetInt(v.Int() + 1) }, func() { v.SetInt(v.Int() - 1) }, func() { v.SetInt(v.Int() + 1<<40) }, func() { v.SetInt(-1 << 63) }}
	case reflect.Uint8:
		var l []func()
		for n := range uint64(13) {
			if n != v.Uint() {
				l = append(l, func() { v.SetUint(n) })
			}
		}
		return append(l, func() { v.SetUint(255 - v.Uint()) })
	case reflect.Bool:
		return []func(){func() { v.SetBool(!v.Bool()) }}
	case reflect.Slice:
		l := []func(){func() { v.Set(reflect.Append(v, reflect.Zero(v.Type().Elem()))) }}
		if v.Len() > 0 {
			first := v.Index(0)
			l = append(l, func() { v.Set(v.Slice(0, v.Len()-1)) }, func() { v.Set(v.Slice(1, v.Len())) }, func() { v.SetZero() }, func() { v.Set(reflect.Append(v, first)) }, func() {
				for range 40 {
					v.Set(reflect.Append(v, first))
				}
			})
		}
		return l
	}
	return nil
}

// copyAll makes to a value of its own that has all that from has.
func copyAll(to, from reflect.Value) {
	switch from.Kind() {
	case reflect.Struct:
		for i := range from.NumField() {
			copyAll(to.Field(i), from.Field(i))
		}
	case reflect.Slice:
		to.Set(reflect.MakeSlice(from.Type(), from.Len(), from.Len()))
		for i := range from.Len() {
			copyAll(to.Index(i), from.Index(i))
		}
	default:
		to.Set(from)
	}
}

// copyOf tells a table that has all that a has, in memory of its own.
func copyOf(a api.Table) api.Table {
	var c api.Table
	copyAll(reflect.ValueOf(&c).Elem(), reflect.ValueOf(a))
	return c
}

// anyTable makes one of anything, by its types alone.
func anyTable(r *rand.Rand) api.Table {
	var a api.Table
	var fill func(v reflect.Value)
	fill = func(v reflect.Value) {
		switch v.Kind() {
		case reflect.Struct:
			for i := range v.NumField() {
				fill(v.Field(i))
			}
		case reflect.Slice:
			v.Set(reflect.MakeSlice(v.Type(), r.Intn(3), 3))
			for i := range v.Len() {
				fill(v.Index(i))
			}
		case reflect.String:
			v.SetString([]string{"", "a", "b", "row", "\xff", "a:int", "a\n"}[r.Intn(7)])
		case reflect.Int, reflect.Int64:
			v.SetInt(int64(r.Intn(4)-1) << r.Intn(64))
		case reflect.Uint8:
			v.SetUint(uint64([]int{0, 1, 2, 3, 4, 5, 6, 9, 10, 11, 255}[r.Intn(11)]))
		case reflect.Bool:
			v.SetBool(r.Intn(2) == 0)
		}
	}
	fill(reflect.ValueOf(&a).Elem())
	return a
}

// spoil writes over all of a table, and over what its lists have room for.
func spoil(a *api.Table) {
	l := partsOf(a)
	slices.Reverse(l)
	for _, v := range l {
		if v.Kind() == reflect.Slice {
			_ = reflect.AppendSlice(v.Slice(0, 0), reflect.MakeSlice(v.Type(), v.Cap(), v.Cap()))
		} else {
			v.SetZero()
		}
	}
}
