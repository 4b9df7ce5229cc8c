package order

import (
	"math/rand"
	"reflect"
	"slices"
	"strconv"
)

// copyInto makes to a copy of from, whose lists have that much room behind
// them; lists that are not there have none.
func copyInto(to, from reflect.Value, more int) {
	switch from.Kind() {
	case reflect.Struct:
		for i := range from.NumField() {
			copyInto(to.Field(i), from.Field(i), more)
		}
	case reflect.Slice:
		if from.IsNil() {
			return
		}
		to.Set(reflect.MakeSlice(from.Type(), from.Len(), from.Len()+more))
		for i := range from.Len() {
			copyInto(to.Index(i), from.Index(i), more)
		}
	default:
		to.Set(from)
	}
}

// copyOf tells a copy in memory of its own.
func copyOf[T any](v T) T {
	var c T
	copyInto(reflect.ValueOf(&c).Elem(), reflect.ValueOf(v), 0)
	return c
}

// room tells a copy whose lists have room behind them.
func room[T any](v T) T {
	var c T
	copyInto(reflect.ValueOf(&c).Elem(), reflect.ValueOf(v), 3)
	return c
}

// whole writes all that v has, also what its lists have room for.
func whole(v any) string { return string(appendWhole(nil, reflect.ValueOf(v))) }

func appendWhole(s []byte, v reflect.Value) []byte {
	switch v.Kind() {
	case reflect.Struct:
		s = append(s, '{')
		for i := range v.NumField() {
			s = appendWhole(s, v.Field(i))
		}
		return append(s, '}')
	case reflect.Slice:
		s = append(strconv.AppendInt(append(s, ' '), int64(v.Len()), 10), " of ["...)
		all := v.Slice(0, v.Cap())
		for i := range all.Len() {
			s = appendWhole(s, all.Index(i))
		}
		return append(s, ']')
	case reflect.String:
		return strconv.AppendQuote(append(s, ' '), v.String())
	case reflect.Bool:
		return strconv.AppendBool(append(s, ' '), v.Bool())
	case reflect.Uint8:
		return strconv.AppendUint(append(s, ' '), v.Uint(), 10)
	}
	return strconv.AppendInt(append(s, ' '), v.Int(), 10)
}

// short is what a failed test writes of what is long.
func short(s string) string { return s[:min(len(s), 1500)] }

// parts tells all that a value is made of, itself first, each time in the same order.
func parts(v reflect.Value) []reflect.Value {
	l := []reflect.Value{v}
	switch v.Kind() {
	case reflect.Struct:
		for i := range v.NumField() {
			l = append(l, parts(v.Field(i))...)
		}
	case reflect.Slice:
		for i := range v.Len() {
			l = append(l, parts(v.Index(i))...)
		}
	}
	return l
}

func partsOf(p any) []reflect.Value { return parts(reflect.ValueOf(p).Elem()) }

// changes tells by what one part alone is made another one.
func changes(v reflect.Value) []func() {
	switch v.Kind() {
	case reflect.String:
		return []func(){func() { v.SetString(v.String() + "x") }, func() { v.SetString("x") }, func() { v.SetString("b") }, func() { v.SetString("n") }, func() { v.SetString("\xff") }}
	case reflect.Int, reflect.Int64:
		return []func(){func() { v.SetInt(v.Int() + 1) }, func() { v.SetInt(v.Int() - 1) }, func() { v.SetInt(v.Int() ^ -1<<63) }, func() { v.SetInt(v.Int() ^ 1<<40) }}
	case reflect.Uint8:
		return []func(){func() { v.SetUint(v.Uint() ^ 1) }, func() { v.SetUint(v.Uint() ^ 2) }, func() { v.SetUint(v.Uint() ^ 128) }}
	case reflect.Bool:
		return []func(){func() { v.SetBool(!v.Bool()) }}
	case reflect.Slice:
		l := []func(){func() { v.Set(reflect.Append(v, reflect.Zero(v.Type().Elem()))) }}
		if v.Len() > 0 {
			l = append(l, func() { v.Set(v.Slice(0, v.Len()-1)) }, func() { v.Set(v.Slice(1, v.Len())) }, func() { v.SetZero() }, func() { v.Set(reflect.Append(v, v.Index(0))) })
		}
		return l
	}
	return nil
}

// span is where a list's memory begins and ends.
type span struct{ from, to uintptr }

// spans tells those of all lists of v, with what they have room for.
func spans(v any) []span {
	p := reflect.New(reflect.TypeOf(v))
	p.Elem().Set(reflect.ValueOf(v))
	var l []span
	for _, x := range parts(p.Elem()) {
		if x.Kind() == reflect.Slice && x.Cap() > 0 {
			from := x.Pointer()
			l = append(l, span{from, from + uintptr(x.Cap())*x.Type().Elem().Size()})
		}
	}
	return l
}

// areApart tells whether no two of those share any memory.
func areApart(l []span) bool {
	slices.SortFunc(l, func(a, b span) int {
		if a.from < b.from {
			return -1
		}
		return 1
	})
	for i := 1; i < len(l); i++ {
		if l[i].from < l[i-1].to {
			return false
		}
	}
	return true
}

// spoil writes over all of a value, and over what its lists have room for.
func spoil(v reflect.Value) {
	if v.Kind() == reflect.Struct {
		for i := range v.NumField() {
			spoil(v.Field(i))
		}
	}
	if v.Kind() != reflect.Slice {
		return
	}
	for i := range v.Len() {
		spoil(v.Index(i))
	}
	if v.Cap() > 0 {
		_ = reflect.AppendSlice(v.Slice(0, 0), reflect.MakeSlice(v.Type(), v.Cap(), v.Cap()))
	}
}

// fill makes anything of a value, by its type alone.
func fill(r *rand.Rand, v reflect.Value) {
	switch v.Kind() {
	case reflect.Struct:
		for i := range v.NumField() {
			fill(r, v.Field(i))
		}
	case reflect.Slice:
		if r.Intn(8) == 0 {
			return
		}
		v.Set(reflect.MakeSlice(v.Type(), r.Intn(4), 4))
		for i := range v.Len() {
			fill(r, v.Index(i))
		}
	case reflect.String:
		v.SetString([]string{"", "a", "a", "\xff"}[r.Intn(4)])
	case reflect.Int, reflect.Int64:
		v.SetInt([]int64{0, 0, 0, 1, -1, 2, 1 << 40, -1 << 63}[r.Intn(8)])
	case reflect.Uint8:
		v.SetUint(uint64([]int{0, 1, 2, 2, 2, 3, 7, 8, 9, 14, 255}[r.Intn(11)]))
	case reflect.Bool:
		v.SetBool(r.Intn(2) == 0)
	}
}

// anything makes one of a type.
func anything[T any](r *rand.Rand) T {
	var v T
	fill(r, reflect.ValueOf(&v).Elem())
	return v
}
