package passes

import (
	"math/rand"
	"regexp"
	"slices"
	"strconv"
	"testing"

	"witan/api"
	"witan/unary"
)

// holdAlone asks whether tests are of the fact alone; what is handed in stays.
func holdAlone(t *testing.T, x api.Tests, want bool) {
	t.Helper()
	x = room(x)
	before := whole(x)
	for range 2 {
		if got := Alone(x); got != want {
			t.Errorf("Alone of %s = %v", short(before), got)
		}
	}
	if after := whole(x); after != before {
		t.Errorf("Alone: handed in was %s, and is %s", short(before), short(after))
	}
}

// P18.2: tests without variables.
func TestAlone(t *testing.T) {
	for _, s := range []string{
		"-", "1", "= 1", "null", `"u"`, "#u", "true", "-1", "(1)", "< 1", "<= 1", "> 1", ">= 1", "[1 .. 2]", "(1 .. 2)", "not(1)", "not(-)", "1, 2", "-, -", "not(1, [2 .. 3), not(> 5))",
		// Self is no variable, and neither is what a text has.
		"?", "> ?", "? + 1", "(? .. 9]", "not(?)", "?, 1", "if(? > 1, ?, 2)", `"?n"`, `contains(?, "?n")`, `not("?n", "u")`, "#n", "length(?) > 2",
		// Also such as never pass, or tell errors.
		"1 / 0", "< true", "not(not(not(not(1))))", "null + 1",
	} {
		holdAlone(t, tests(t, s), true)
	}
}

// P18.2: a variable alone, and within lists, ranges, not, expressions.
func TestNotAlone(t *testing.T) {
	for _, s := range []string{
		"?n", "= ?n", "(?n)", "((?not1))",
		"?n, ?m", "1, ?n", "?n, 1", "-, 2, > ?n, 3", "not(?n)", "not(1, ?n)", "not(not(?n))", "1, not(2, not([3 .. ?n]))",
		"[?n .. 1]", "[1 .. ?n]", "(?n .. ?n)", "< ?n", "<= ?n", "> ?n", ">= ?n",
		"?n + 1", "1 + ?n", "-?n", "not ?n", "? = ?n", "?n = ?", "abs(?n)", "min(1, 2, 3, ?n)", "if(true, 1, ?n)", "if(?n, 1, 2)", "contains(?, ?n)", "?n * 0 + 1", "1 * (2 + (3 - ?n)) = ?", `"?n", ?n`,
	} {
		holdAlone(t, tests(t, s), false)
	}
}

// P18.2: tests that are not there or broken name no variables; but a variable
// alone is none of the fact alone, whatever else it has.
func TestAloneOfBrokenTests(t *testing.T) {
	n := api.Expr{{Op: api.OpVar, Name: "n"}}
	for _, x := range []api.Tests{
		nil, {}, {{}}, {{Op: 255}}, {{Op: api.TestEq}}, {{Op: api.TestNot, Kids: []int{0}}}, {{Op: api.TestNot, Kids: []int{-1}}}, {{Op: api.TestList, Kids: []int{1 << 40}}},
		// Layer 11 tells no names of what may not be, though variables stand there.
		{{Op: api.TestGt, A: n, Kids: []int{0}}}, {{Op: api.TestGt, A: n}, {Op: api.TestGt, A: n}}, {{Op: api.TestAny, A: n}}, {{Op: api.TestIn, A: n}}, {{Op: api.TestGt, A: api.Expr{{Op: api.OpVar, Name: "N"}}}}, {{Op: api.TestGt, A: api.Expr{n[0], n[0]}}}, {{Op: api.TestGt, A: api.Expr{n[0], {Op: api.OpNeg, Kids: []int{1}}}}},
		slices.Repeat(api.Tests{{Op: api.TestGt, A: n}}, 1000), {{Op: api.TestGt, A: slices.Repeat(n, 1000)}}, {{Op: api.TestGt, A: doubled(n)}},
	} {
		holdAlone(t, x, true)
	}
	for _, x := range []api.Tests{
		{{Op: api.TestEq, A: n, B: n}}, {{Op: api.TestEq, A: n, Low: true, High: true, Kids: []int{0}}}, {{Op: api.TestEq, A: api.Expr{{Op: api.OpVar}}}}, {{Op: api.TestEq, A: api.Expr{{Op: api.OpVar, Name: "not"}}}}, {{Op: api.TestEq, A: api.Expr{{Op: api.OpVar, Name: "n", V: one("1"), Kids: []int{0}}}}},
	} {
		holdAlone(t, x, false)
	}
}

// doubled is an expression each of whose nodes has the one ahead twice.
func doubled(x api.Expr) api.Expr {
	for i := range 59 {
		x = append(x, api.Node{Op: api.OpAdd, Kids: []int{i, i}})
	}
	return x
}

// P18.2: tests of as many nodes as there may be have names, and such of one
// more have none.
func TestAloneOfManyNodes(t *testing.T) {
	list := func(ones int, last string) api.Tests {
		l := tests(t, last)
		for range ones - 1 {
			l = append(tests(t, "1"), l...)
		}
		all := api.Test{Op: api.TestList}
		for i := range ones {
			all.Kids = append(all.Kids, i)
		}
		return append(l, all)
	}
	for ones := 2; ones < 40; ones++ {
		holdAlone(t, list(ones, "1"), true)
		holdAlone(t, list(ones, "?n"), ones >= api.MaxTests)
		holdAlone(t, list(ones, "> ?n"), ones >= api.MaxTests)
	}
}

// written writes tests by chance.
func written(r *rand.Rand, deep int) string {
	x := func() string { return writtenExpr(r, deep) }
	switch r.Intn(8 - 2*min(1, max(0, 1-deep))) {
	case 0:
		return "-"
	case 1:
		return x()
	case 2, 3:
		return []string{"<", "<=", ">", ">=", "="}[r.Intn(5)] + " " + x()
	case 4:
		return "[" + x() + " .. " + x() + "]"
	case 5:
		return "(" + x() + " .. " + x() + ")"
	case 6:
		return "not(" + written(r, deep-1) + ")"
	}
	return written(r, 0) + ", " + written(r, deep-1)
}

// writtenExpr writes an expression by chance, in few of which a variable stands.
func writtenExpr(r *rand.Rand, deep int) string {
	if deep <= 0 || r.Intn(3) == 0 {
		if r.Intn(12) == 0 {
			return "?" + []string{"n", "m", "x1"}[r.Intn(3)]
		}
		return []string{"1", "?", "null", `"?n"`, "#n", "2.5", "true", strconv.Itoa(r.Intn(9))}[r.Intn(8)]
	}
	a, b := writtenExpr(r, deep-1), writtenExpr(r, deep-1)
	switch r.Intn(5) {
	case 0:
		return "min(" + a + ", " + b + ")"
	case 1:
		return "if(" + a + ", " + b + ", 1)"
	case 2:
		return "(not " + a + ")"
	}
	return "(" + a + []string{" + ", " * ", " = ", " and "}[r.Intn(4)] + b + ")"
}

// P18.2: tests by chance, whose variables a pattern of texts finds.
func TestAloneByChance(t *testing.T) {
	r := rand.New(rand.NewSource(2))
	stringOrVar := regexp.MustCompile(`"[^"]*"|\?[a-z]`)
	counts := map[bool]int{}
	for range 4000 {
		s := written(r, r.Intn(4))
		found := slices.ContainsFunc(stringOrVar.FindAllString(s, -1), func(w string) bool { return w[0] == '?' })
		holdAlone(t, tests(t, s), !found)
		counts[found]++
	}
	if counts[true] < 500 || counts[false] < 500 {
		t.Errorf("only %v", counts)
	}
}

// P1, P18.2: anything at all.
func TestAloneOfAnything(t *testing.T) {
	r := rand.New(rand.NewSource(5))
	for range 5000 {
		x := anything[api.Tests](r)
		_, isVar := unary.Var(x)
		holdAlone(t, x, !isVar && unary.Names(x) == nil)
	}
}

// P18.1, P18.2: what passes a test of the fact alone does, whatever is bound.
func TestAloneHangsOnNothingBound(t *testing.T) {
	r := rand.New(rand.NewSource(3))
	pool := values(`null 0 1 2 2.5 "?n" true #n`)
	for range 3000 {
		s := written(r, r.Intn(3))
		x := tests(t, s)
		if !Alone(x) {
			continue
		}
		h := handed{usual(), pattern(t, "b(x: "+s+")"), api.Fact{T: 1, S: []api.Value{pool[r.Intn(len(pool))]}}, nil}
		_, ok := h.pass()
		for _, v := range pool {
			vars := []api.Binding{{Name: "n", V: v}, {Name: "m", V: v}}
			h.Vars = vars
			if !ok {
				vars = nil
			}
			h.hold(t, vars, ok)
		}
	}
}
