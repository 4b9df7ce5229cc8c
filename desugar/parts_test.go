package desugar

import (
	"fmt"
	"math/rand"
	"reflect"
	"slices"
	"strings"

	"witan/api"
)

// parts tells all that a value is made of, itself first: whatever can be set.
func parts(v reflect.Value) []reflect.Value {
	l := []reflect.Value{v}
	switch v.Kind() {
	case reflect.Struct:
		for i := range v.NumField() {
			l = append(l, parts(v.Field(i))...)
		}
	case reflect.Slice:
		for i := range v.Len() {
			l = append(l, parts(v.Index(i))...)
		}
	}
	return l
}

// partsOf tells those of what p points to, each time in the same order.
func partsOf(p any) []reflect.Value { return parts(reflect.ValueOf(p).Elem()) }

// changes tells by what one part alone is made another one.
func changes(v reflect.Value) []func() {
	switch v.Kind() {
	case reflect.String:
		return []func(){func() { v.SetString("p") }, func() { v.SetString("not") }, func() { v.SetString(v.String() + "\n") }}
	case reflect.Int, reflect.Int64:
		return []func(){func() { v.SetInt(v.Int() + 1) }, func() { v.SetInt(v.Int() - 1) }, func() { v.SetInt(-1 << 63) }, func() { v.SetInt(1 << 40) }}
	case reflect.Uint8:
		var l []func()
		for _, n := range []uint64{0, 1, 2, 3, 7, 8, 11, 255} {
			l = append(l, func() { v.SetUint(n) })
		}
		return l
	case reflect.Bool:
		return []func(){func() { v.SetBool(!v.Bool()) }}
	case reflect.Slice:
		l := []func(){func() { v.Set(reflect.Append(v, reflect.Zero(v.Type().Elem()))) }}
		if v.Len() > 0 {
			first := v.Index(0)
			l = append(l, func() { v.Set(v.Slice(0, v.Len()-1)) }, func() { v.Set(v.Slice(1, v.Len())) }, func() { v.SetZero() }, func() { v.Set(reflect.Append(v, first)) })
		}
		return l
	}
	return nil
}

// copyAll makes to a value of its own that has all that from has; of lists that
// are not there it makes empty ones.
func copyAll(to, from reflect.Value) {
	switch from.Kind() {
	case reflect.Struct:
		for i := range from.NumField() {
			copyAll(to.Field(i), from.Field(i))
		}
	case reflect.Slice:
		to.Set(reflect.MakeSlice(from.Type(), from.Len(), from.Len()))
		for i := range from.Len() {
			copyAll(to.Index(i), from.Index(i))
		}
	default:
		to.Set(from)
	}
}

// copyOf tells a value that has all that v has, in memory of its own.
func copyOf[T any](v T) T {
	var c T
	copyAll(reflect.ValueOf(&c).Elem(), reflect.ValueOf(v))
	return c
}

// room tells a copy whose lists, also those without parts, have room behind
// their last part.
func room[T any](v T) T {
	c := copyOf(v)
	l := partsOf(&c)
	slices.Reverse(l)
	for _, p := range l {
		if p.Kind() == reflect.Slice {
			n := p.Len()
			p.Set(reflect.AppendSlice(p, reflect.MakeSlice(p.Type(), 2, 2)).Slice(0, n))
		}
	}
	return c
}

// whole writes all that v has, also what its lists have room for.
func whole(v any) string {
	var s strings.Builder
	var write func(v reflect.Value)
	write = func(v reflect.Value) {
		switch v.Kind() {
		case reflect.Struct:
			for i := range v.NumField() {
				write(v.Field(i))
			}
		case reflect.Slice:
			fmt.Fprint(&s, " of ", v.Len(), ":")
			for i := range v.Cap() {
				write(v.Slice(0, v.Cap()).Index(i))
			}
		default:
			fmt.Fprintf(&s, " %#v", v)
		}
	}
	write(reflect.ValueOf(v))
	return s.String()
}

// span is where a list's memory begins and ends.
type span struct{ from, to uintptr }

// spans tells those of all lists of v, with what they have room for.
func spans(v any) []span {
	p := reflect.New(reflect.TypeOf(v))
	p.Elem().Set(reflect.ValueOf(v))
	var l []span
	for _, x := range parts(p.Elem()) {
		if x.Kind() == reflect.Slice && x.Cap() > 0 {
			from := x.Pointer()
			l = append(l, span{from, from + uintptr(x.Cap())*x.Type().Elem().Size()})
		}
	}
	return l
}

// areApart tells whether no two of those share any memory.
func areApart(l []span) bool {
	slices.SortFunc(l, func(a, b span) int {
		if a.from < b.from {
			return -1
		}
		return 1
	})
	for i := 1; i < len(l); i++ {
		if l[i].from < l[i-1].to {
			return false
		}
	}
	return true
}

// spoil writes over all of a value, and over what its lists have room for.
func spoil(v reflect.Value) {
	if v.Kind() == reflect.Struct {
		for i := range v.NumField() {
			spoil(v.Field(i))
		}
	}
	if v.Kind() != reflect.Slice {
		return
	}
	for i := range v.Len() {
		spoil(v.Index(i))
	}
	if v.Cap() > 0 {
		_ = reflect.AppendSlice(v.Slice(0, 0), reflect.MakeSlice(v.Type(), v.Cap(), v.Cap()))
	}
}

// fill makes anything of a value, by its type alone.
func fill(r *rand.Rand, v reflect.Value) {
	switch v.Kind() {
	case reflect.Struct:
		for i := range v.NumField() {
			fill(r, v.Field(i))
		}
	case reflect.Slice:
		v.Set(reflect.MakeSlice(v.Type(), r.Intn(3), 3))
		for i := range v.Len() {
			fill(r, v.Index(i))
		}
	case reflect.String:
		v.SetString([]string{"", "a", "b", "row", "\xff"}[r.Intn(5)])
	case reflect.Int, reflect.Int64:
		v.SetInt(int64(r.Intn(4)-1) << r.Intn(64))
	case reflect.Uint8:
		v.SetUint(uint64([]int{0, 1, 2, 3, 4, 5, 6, 9, 10, 11, 255}[r.Intn(11)]))
	case reflect.Bool:
		v.SetBool(r.Intn(2) == 0)
	}
}

// mayNot are values that may not be, of each kind.
func mayNot() []api.Value {
	return []api.Value{
		{N: 1}, {S: "a"}, {Kind: 1, N: 1, S: "a"}, {Kind: 2, N: 1, S: "a"}, {Kind: 3, N: 1, S: "a"}, {Kind: 3, S: "\n"}, {Kind: 3, S: strings.Repeat("a", 201)}, {Kind: 4, N: 2}, {Kind: 4, N: -1}, {Kind: 4, S: "a"}, {Kind: 5}, {Kind: 5, S: "A"}, {Kind: 5, S: "abcdefghijklm"}, {Kind: 5, S: "a", N: 1}, {Kind: 6}, {Kind: 255, N: 1},
	}
}
