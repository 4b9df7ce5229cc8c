package unary

import (
	"math/rand"
	"strings"
	"testing"

	"witan/api"
	"witan/expr"
)

// The model reads word by word, with a stack of what is open, and tries all
// that a word may begin ahead of telling what it does.

// opened is a not that is open, or (the first one) the whole: its ones.
type opened struct {
	at   api.Place
	ones []int
}

// quotedAt tells word i as one of the grammar's; nothing, if it is none.
func quotedAt(l []api.Tok, i int) string {
	if i < len(l) && (l[i].Kind == 1 || l[i].Kind == 7) {
		return l[i].Text
	}
	return ""
}

// model answers as One does, or as Parse.
func model(l []api.Tok, from int, alone bool) (api.Tests, int, api.Errno) {
	if from < 0 || from > len(l) {
		return nil, 0, 2
	}
	var t api.Tests
	stack := []opened{{}}
	i := from
	for {
		if quotedAt(l, i) == "not" && quotedAt(l, i+1) == "(" {
			if len(stack) == 5 {
				return nil, i, 12
			}
			stack = append(stack, opened{at: l[i].At})
			i += 2
			continue
		}
		n, next, e := leaf(l, i)
		if i = next; e != 0 {
			return nil, i, e
		}
		t = append(t, n)
		for isWhole := true; isWhole; {
			top := &stack[len(stack)-1]
			top.ones = append(top.ones, len(t)-1)
			if quotedAt(l, i) == "," && !(alone && len(stack) == 1) && !(i+1 < len(l) && l[i+1].Kind == 1 && quotedAt(l, i+2) == ":") {
				i++
				isWhole = false
				continue
			}
			if len(top.ones) > 1 {
				t = append(t, api.Test{Op: 9, Kids: top.ones, At: t[top.ones[0]].At})
			}
			if len(stack) == 1 {
				if len(t) > 30 {
					return nil, from, 7
				}
				return t, i, 0
			}
			if quotedAt(l, i) != ")" {
				return nil, i, 4
			}
			i++
			t = append(t, api.Test{Op: 8, Kids: []int{len(t) - 1}, At: top.at})
			stack = stack[:len(stack)-1]
		}
	}
}

// leaf tells a one that is no not.
func leaf(l []api.Tok, i int) (api.Test, int, api.Errno) {
	x, n, e := expr.Parse(l, i)
	y, m, f := expr.Parse(l, min(i+1, len(l)))
	w := quotedAt(l, i)
	var place api.Place
	if i < len(l) {
		place = l[i].At
	}
	for k, s := range strings.Fields("= < <= > >=") {
		if w == s {
			return api.Test{Op: uint8(2 + k), A: y, At: place}, m, f
		}
	}
	if w == "-" && e != 0 {
		return api.Test{Op: 1, At: place}, i + 1, 0
	}
	if (w == "[" || w == "(") && f == 0 && quotedAt(l, m) == ".." {
		z, n, e := expr.Parse(l, m+1)
		if e != 0 {
			return api.Test{}, n, e
		}
		end := quotedAt(l, n)
		if end != "]" && end != ")" {
			return api.Test{}, n, 4
		}
		return api.Test{Op: 7, A: y, B: z, Low: w == "(", High: end == ")", At: place}, n + 1, 0
	}
	return api.Test{Op: 2, A: x, At: place}, n, e
}

// against holds both calls against the model, and tells what Parse told.
func against(t *testing.T, l []api.Tok, from int) (api.Tests, api.Errno) {
	t.Helper()
	x, n, e := Parse(l, from)
	if y, m, f := model(l, from, false); !isEqual(x, y) || n != m || e != f || (e != 0 && x != nil) {
		t.Errorf("Parse(%s, %d) = %v, %d, %d; want %v, %d, %d", told(l), from, x, n, e, y, m, f)
	}
	z, n, d := One(l, from)
	if y, m, f := model(l, from, true); !isEqual(z, y) || n != m || d != f || (d != 0 && z != nil) {
		t.Errorf("One(%s, %d) = %v, %d, %d; want %v, %d, %d", told(l), from, z, n, d, y, m, f)
	}
	return x, e
}

// placed gives words different places.
func placed(l []api.Tok) []api.Tok {
	var p []api.Tok
	for i, w := range l {
		w.At = at(2+i/7, 10*(i%7+1))
		p = append(p, w)
	}
	return p
}

// P11.1: all rows of up to so many of these words

func TestShortRows(t *testing.T) {
	counts := map[api.Errno]int{}
	for _, x := range []struct {
		words string
		most  int
	}{
		{"1 ?a - not ( ) [ ] , .. = > a :", 4},
		{"1 - not ( ) ,", 6},
		{"1 ( ) ..", 7},
		{"1 - ( ] ..", 6},
		{"1 [ ) .. ,", 6},
		{"1 , a :", 6},
	} {
		var all []api.Tok
		for _, s := range strings.Fields(x.words) {
			all = append(all, words(t, s)...)
		}
		row := make([]api.Tok, 0, x.most)
		var rows func()
		rows = func() {
			_, e := against(t, placed(row), 0)
			counts[e]++
			if len(row) == x.most || t.Failed() {
				return
			}
			for _, w := range all {
				row = append(row, w)
				rows()
				row = row[:len(row)-1]
			}
		}
		rows()
	}
	if counts[api.OK] < 5000 || counts[api.ErrForm] < 5000 {
		t.Errorf("%v", counts)
	}
}

// maker makes tests' texts by chance.
type maker struct{ *rand.Rand }

func (m maker) pick(l ...string) string { return l[m.Intn(len(l))] }

func (m maker) expr(deep int) string {
	if deep == 0 || m.Intn(3) == 0 {
		return m.pick("1", "2.5", "?a", "?b", "?", "null", "true", "false", `"x"`, "#s", "0", "4", "?d", "?s", "?z")
	}
	x, y := m.expr(deep-1), m.expr(deep-1)
	switch m.Intn(9) {
	case 0:
		return "(" + x + ")"
	case 1:
		return "not " + x
	case 2:
		return "not (" + x + ")"
	case 3:
		return "-" + x
	case 4:
		return m.pick("abs", "length", "upper", "min", "max") + "(" + x + ")"
	case 5:
		return m.pick("mod", "contains", "starts", "min", "max") + "(" + x + ", " + y + ")"
	case 6:
		return "if(" + x + ", " + y + ", " + x + ")"
	}
	return x + " " + m.pick("or", "and", "=", "<>", "<", "<=", ">", ">=", "+", "-", "*", "/") + " " + y
}

func (m maker) one(deep int) string {
	switch m.Intn(6) {
	case 0:
		return "-"
	case 1:
		return m.pick("=", "<", "<=", ">", ">=") + " " + m.expr(2)
	case 2:
		return m.pick("[", "(") + m.expr(2) + " .. " + m.expr(2) + m.pick("]", ")")
	case 3:
		if deep > 0 {
			return "not(" + m.tests(deep-1) + ")"
		}
	}
	return m.expr(3)
}

func (m maker) tests(deep int) string {
	s := m.one(deep)
	for m.Intn(3) == 0 {
		s += ", " + m.one(deep)
	}
	return s
}

// P11.1: rows that are made by chance, and rows a word or two away from them

func TestRowsByChance(t *testing.T) {
	m := maker{rand.New(rand.NewSource(11))}
	others := words(t, "1 - not ( ) [ ] , .. = > <= a : ?a true min not ( , - <> and #s")
	counts := map[api.Errno]int{}
	for range 8000 {
		s := m.tests(4)
		if n := m.Intn(20); n < 6 {
			s = strings.Repeat("not(", n) + s + strings.Repeat(")", n)
		}
		l := placed(words(t, s))
		_, e := against(t, l, 0)
		counts[e]++
		for range 5 {
			l = l[:len(l):len(l)]
			i := m.Intn(len(l) + 1)
			switch w := others[m.Intn(len(others))]; {
			case i == len(l) || m.Intn(3) == 0:
				l = append(l[:i:i], append([]api.Tok{w}, l[i:]...)...)
			case m.Intn(2) == 0 && len(l) > 1:
				l = append(l[:i:i], l[i+1:]...)
			default:
				l = append(l[:i:i], append([]api.Tok{w}, l[i+1:]...)...)
			}
			l = placed(l)
			_, e = against(t, l, 0)
			counts[e]++
			_, e = against(t, l, m.Intn(len(l)+1))
			counts[e]++
		}
		if t.Failed() {
			return
		}
	}
	for _, e := range []api.Errno{api.OK, api.ErrForm, api.ErrDepth, api.ErrMany} {
		if counts[e] < 100 {
			t.Errorf("%v", counts)
		}
	}
}
