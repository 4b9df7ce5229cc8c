package ncc

import (
	"math"
	"slices"
	"strings"
	"testing"

	"witan/api"
)

func fact(id, t int, s string) api.Fact { return api.Fact{ID: id, T: t, S: values(s)} }

// of holds a group of the usual templates and the patterns of a text.
func of(t *testing.T, s string) *held {
	t.Helper()
	return hold(t, usual(), patterns(t, s))
}

// wantLeft asks whether a left is on that comes.
func (h *held) wantLeft(id int, vars string, want bool) {
	h.t.Helper()
	if on, e := h.left(id, bindings(vars)); on != want || e != api.OK {
		h.t.Errorf("Left %d, %s: %t, %d; not %t", id, vars, on, e, want)
	}
}

// wantUnleft asks whether a left was on that goes.
func (h *held) wantUnleft(id int, want bool) {
	h.t.Helper()
	if on, e := h.unleft(id); on != want || e != api.OK {
		h.t.Errorf("Unleft %d: %t, %d; not %t", id, on, e, want)
	}
}

// wantRight asks for the lefts that a right turns, which comes.
func (h *held) wantRight(f api.Fact, want ...int) {
	h.t.Helper()
	if l, e := h.right(f); !slices.Equal(l, want) || e != api.OK {
		h.t.Errorf("Right %s: %v, %d; not %v", short(whole(f)), l, e, want)
	}
}

// wantUnright asks for the lefts that a right turns, which goes.
func (h *held) wantUnright(id int, want ...int) {
	h.t.Helper()
	if l, e := h.unright(id); !slices.Equal(l, want) || e != api.OK {
		h.t.Errorf("Unright %d: %v, %d; not %v", id, l, e, want)
	}
}

func (h *held) twiceLeft(id int, vars string) {
	h.t.Helper()
	if _, e := h.left(id, bindings(vars)); e != api.ErrTwice {
		h.t.Errorf("Left %d: %d", id, e)
	}
}

func (h *held) twiceRight(f api.Fact) {
	h.t.Helper()
	if _, e := h.right(f); e != api.ErrTwice {
		h.t.Errorf("Right %s: %d", short(whole(f)), e)
	}
}

func (h *held) noLeft(ids ...int) {
	h.t.Helper()
	for _, id := range ids {
		if _, e := h.unleft(id); e != api.ErrNone {
			h.t.Errorf("Unleft %d: %d", id, e)
		}
	}
}

func (h *held) noRight(ids ...int) {
	h.t.Helper()
	for _, id := range ids {
		if _, e := h.unright(id); e != api.ErrNone {
			h.t.Errorf("Unright %d: %d", id, e)
		}
	}
}

// wantAll asks which lefts are on.
func (h *held) wantAll(want ...int) {
	h.t.Helper()
	if l := h.group.All(); !slices.Equal(l, want) {
		h.t.Errorf("All: %v, not %v", l, want)
	}
}

// wantRows asks how many rows the lefts from a number on have.
func (h *held) wantRows(from int, want ...int) {
	h.t.Helper()
	for i, n := range want {
		if got := h.group.Rows(from + i); got != n {
			h.t.Errorf("Rows %d: %d, not %d", from+i, got, n)
		}
	}
}

// The chapter's examples.
func TestExamples(t *testing.T) {
	g := New(usual(), patterns(t, "a(x: ?n) b(z: ?n)"))
	if on, e := g.Left(1, nil); !on || e != api.OK || g.Rows(1) != 0 {
		t.Error(on, e, g.Rows(1))
	}
	if l, e := g.Right(fact(5, 0, "7 0")); len(l) > 0 || e != api.OK || g.Rows(1) != 0 {
		t.Error(l, e, g.Rows(1))
	}
	if l, e := g.Right(fact(6, 1, "0 0 7")); !slices.Equal(l, []int{1}) || e != api.OK || g.Rows(1) != 1 || g.On(1) {
		t.Error(l, e, g.Rows(1), g.On(1))
	}
	if l, e := g.Unright(5); !slices.Equal(l, []int{1}) || e != api.OK || g.Rows(1) != 0 || !g.On(1) {
		t.Error(l, e, g.Rows(1), g.On(1))
	}
}

// P24.1: a new one has nothing, whatever the patterns and whatever is asked; without
// patterns there is none.
func TestNew(t *testing.T) {
	for _, s := range several() {
		h := of(t, s)
		h.wantAll()
		h.noLeft(far()...)
		h.noRight(far()...)
	}
	h := hold(t, nil, make([]api.Pattern, 2))
	h.wantLeft(1, "", true)
	h.wantRight(fact(1, 0, ""))
	for _, l := range [][]api.Pattern{nil, {}, patterns(t, "a()")[:0]} {
		if g := New(usual(), l); g != nil {
			t.Error("New of no patterns tells one")
		}
	}
}

// P24.1: a left comes before, between and behind the rights of its rows, and goes as
// what it is.
func TestLeft(t *testing.T) {
	facts := []api.Fact{fact(5, 0, "7 8"), fact(6, 1, "8 9 0"), fact(7, 3, "")}
	for before := range 4 {
		h := of(t, "a(x: ?n, y: ?m) b(x: ?m) d()")
		for i, f := range facts {
			if i == before {
				h.wantLeft(1, "", true)
				h.wantLeft(2, "n 8", true)
			}
			if i == 2 && before < 3 {
				h.wantRight(f, 1)
			} else {
				h.wantRight(f)
			}
		}
		if before == 3 {
			h.wantLeft(1, "", false)
			h.wantLeft(2, "n 8", true)
		}
		h.wantRows(1, 1, 0)
		h.wantAll(2)
		h.wantUnleft(1, false)
		h.wantUnleft(2, true)
		h.wantLeft(1, "m 8 k 1", false)
		h.wantUnright(5+before%3, 1)
		h.wantUnleft(1, true)
	}
}

// P24.1: a right turns several lefts, one, none; what it turned it turns back, if no
// other row is there.
func TestTurned(t *testing.T) {
	h := of(t, "a(x: ?n, y: > ?m) b(z: ?n)")
	for id, vars := range map[int]string{4: "n 1 m 2", 2: "m 2", 9: "n 2 m 2", 3: "m 5", -7: "m 0 n 1", 12: "n 1"} {
		h.wantLeft(id, vars, true)
	}
	h.wantRight(fact(1, 0, "1 3"))
	h.wantRight(fact(2, 1, "0 0 1"), -7, 2, 4)
	h.wantAll(3, 9, 12)
	h.wantRight(fact(3, 0, "2 3"))
	h.wantRight(fact(4, 1, "0 0 2"), 9)
	h.wantRight(fact(5, 0, "1 9"), 3)
	h.wantRight(fact(6, 0, "1 1"))
	h.wantRight(fact(7, 0, "1 0"))
	h.wantRows(2, 3, 1, 2)
	h.wantRows(-7, 3)
	h.wantRows(9, 1)
	h.wantUnright(1)
	h.wantUnright(5, 3, 4)
	h.wantAll(3, 4, 12)
	h.wantUnright(3, 2, 9)
	h.wantUnright(4)
	h.wantUnright(2, -7)
	h.wantRight(fact(2, 1, "0 0 1"), -7)
	h.wantUnright(6, -7)
	h.wantUnright(7)
	h.wantUnright(2)
	h.wantAll(-7, 2, 3, 4, 9, 12)
}

// P24.1: a left of several rows is turned by the first one that comes, and the last
// one that goes.
func TestFirstAndLast(t *testing.T) {
	h := of(t, "a(x: ?n) b(z: ?n)")
	h.wantLeft(1, "", true)
	h.wantRight(fact(1, 0, "1 1"))
	h.wantRight(fact(2, 0, "1 2"))
	h.wantRight(fact(3, 0, "2 2"))
	h.wantRight(fact(4, 1, "0 0 1"), 1)
	h.wantRows(1, 2)
	h.wantRight(fact(5, 1, "0 0 2"))
	h.wantRight(fact(6, 1, "1 1 1"))
	h.wantRows(1, 5)
	h.wantUnright(4)
	h.wantRows(1, 3)
	h.wantUnright(2)
	h.wantUnright(5)
	h.wantRows(1, 1)
	h.wantUnright(1, 1)
	h.wantRight(fact(1, 0, "1 1"), 1)
	h.wantUnright(6, 1)
	h.wantUnright(1)
	h.wantUnright(3)
	h.wantAll(1)
}

// P24.1, P24.2: a right that passes several patterns, and stands more than once in a
// row.
func TestMoreThanOnce(t *testing.T) {
	h := of(t, "a() a() a()")
	h.wantLeft(1, "", true)
	h.wantRight(fact(1, 0, "1 1"), 1)
	h.wantRows(1, 1)
	h.wantRight(fact(2, 0, "1 1"))
	h.wantRows(1, 8)
	h.wantLeft(2, "", false)
	h.wantRight(fact(3, 0, "1 2"))
	h.wantRows(1, 27, 27)
	h.wantRight(fact(4, 1, "1 2 3"))
	h.wantRows(1, 27, 27)
	h.wantUnright(1)
	h.wantRows(1, 8, 8)
	h.wantUnleft(1, false)
	h.wantRows(1, 0, 8)
	h.wantUnright(3)
	h.wantUnright(2, 2)
	g := of(t, "a(x: ?n, y: ?m) a(x: ?m, y: ?n)")
	g.wantLeft(1, "", true)
	g.wantLeft(2, "n 5", true)
	g.wantRight(fact(1, 0, "5 6"))
	g.wantRight(fact(2, 0, "6 5"), 1, 2)
	g.wantRows(1, 2, 1)
	g.wantRight(fact(3, 0, "5 5"))
	g.wantRows(1, 3, 2)
	g.wantRight(fact(4, 0, "5 5"))
	g.wantRows(1, 6, 5)
	g.wantUnright(2)
	g.wantRows(1, 4, 4)
	g.wantUnright(3)
	g.wantUnright(4, 1, 2)
}

// P24.1: what patterns bind and ask, one by one.
func TestBindings(t *testing.T) {
	for _, x := range []struct {
		patterns, vars, first, second string
		rows                          int
	}{
		{"a() a()", "", "1 2", "3 4", 4},
		{"a(x: ?n) a(x: > ?n)", "", "1 2", "3 4", 1},
		{"a(x: > ?n) a(x: ?n)", "", "1 2", "3 4", 0},
		{"a(x: > ?n) a(x: ?n)", "n 1", "1 2", "3 4", 1},
		{"a(x: ?n) a(x: > ?n)", "n 3", "1 2", "3 4", 0},
		{"a(x: ?n) a(x: > ?n)", "n 1 n 3", "1 2", "3 4", 1},
		{"a(x: ?n) a(y: ?n)", "", "1 2", "3 1", 1},
		{"a(x: ?n) a(y: ?n)", "", "1 2", "3 1.0", 0},
		{"a(x: ?n, y: ?n) a(x: ?n)", "", "1 1", "1 2", 2},
		{"a(x: ?n) a(x: ?m)", "", "1 2", "3 4", 4},
		{"a(x: ?n) a(x: ?m)", "m 3", "1 2", "3 4", 2},
		{"a(x: ?n) a(x: ?m)", "m 3 n 1", "1 2", "3 4", 1},
		{"f: a(x: ?n) f: a(x: ?n)", "f 7", "1 2", "3 4", 2},
		{"a(x: ?n) a(y: not(?n))", "", "null 2", "3 null", 1},
		{"a(x: ?n) a(y: 6 / ?n)", "", "0 2", "3 2", 2},
		{"a(x: ?n) a(x: ?n)", "n bad", "bad 2", "3 2", 1},
		{"a(x: ?n) a(z: ?n)", "", "1 2", "3 4", 0},
		{"a(x: ?n) c()", "", "1 2", "3 4", 0},
		{"c() a()", "", "1 2", "3 4", 0},
	} {
		var turned []int
		if x.rows > 0 {
			turned = []int{1}
		}
		h := of(t, x.patterns)
		h.right(fact(5, 0, x.first))
		h.right(fact(6, 0, x.second))
		h.wantLeft(1, x.vars, x.rows == 0)
		h.wantRows(1, x.rows)
		h.unright(5)
		h.unright(6)
		h.wantAll(1)
		a, _ := h.right(fact(6, 0, x.second))
		b, _ := h.right(fact(5, 0, x.first))
		if !slices.Equal(append(a, b...), turned) {
			t.Error(a, b)
		}
		h.wantRows(1, x.rows)
		h.wantUnleft(1, x.rows == 0)
		if t.Failed() {
			t.Fatal(x)
		}
	}
}

// P24.1: facts that make no row, of other templates, with too few or too many values.
func TestNoRows(t *testing.T) {
	h := of(t, "a(x: ?n, y: 5) b(z: ?n)")
	h.wantLeft(1, "n 1", true)
	h.wantRight(fact(100, 1, "0 0 1"))
	h.wantRight(fact(101, 1, "0 0"))
	for id, f := range []api.Fact{fact(0, 0, "2 5"), fact(0, 0, "1 6"), fact(0, 0, "1"), fact(0, 0, ""), fact(0, 1, "1 5 5"), fact(0, 2, "1 5"), fact(0, -1, "1 5"), fact(0, 4, "1 5"), fact(0, math.MaxInt, "1 5"), fact(0, math.MinInt, "1 5"), fact(0, 0, "1.0 5"), fact(0, 0, "null 5"), fact(0, 0, "1 null"), fact(0, 0, "bad 5")} {
		f.ID = id
		h.wantRight(f)
		h.twiceRight(f)
	}
	h.wantRight(fact(102, 0, "1 5 7 8 9"), 1)
	h.wantUnright(102, 1)
	for id := range 14 {
		h.wantUnright(id)
	}
	h.wantUnleft(1, true)
}

// P24.1: what is there is refused, whatever it binds or has, and all stays as it was.
func TestTwice(t *testing.T) {
	h := of(t, "a(x: ?n) a(x: ?n)")
	h.wantLeft(3, "n 1", true)
	h.wantLeft(4, "n 2", true)
	h.wantRight(fact(3, 0, "1 5"), 3)
	for _, vars := range []string{"n 1", "n 2", "", "m 1", "n 1 n 2"} {
		h.twiceLeft(3, vars)
		h.twiceLeft(4, vars)
	}
	for _, f := range []api.Fact{fact(3, 0, "1 5"), fact(3, 0, "2 5"), fact(3, 1, "1 5 5"), fact(3, -1, "1 5"), fact(3, 0, "")} {
		h.twiceRight(f)
	}
	h.wantAll(4)
	h.wantRows(3, 1, 0)
	h.wantRight(fact(5, 0, "1 5"))
	h.wantRows(3, 4, 0)
	h.wantUnright(5)
	h.wantUnright(3, 3)
	h.wantUnleft(3, true)
	h.wantUnleft(4, true)
}

// P24.1: what is not there, was never there, went already.
func TestNone(t *testing.T) {
	h := of(t, "a() a()")
	h.wantLeft(3, "", true)
	h.wantRight(fact(4, 0, "1 1"), 3)
	h.noLeft(4, 2, -3, 1<<32+3, math.MaxInt, math.MinInt)
	h.noRight(3, 5, -4, 1<<32+4, math.MaxInt, math.MinInt)
	h.wantAll()
	h.wantUnright(4, 3)
	h.noRight(4)
	h.wantAll(3)
	h.wantUnleft(3, true)
	h.noLeft(3)
	h.noRight(4)
	h.wantAll()
}

// P24.1: what went may come again, with other bindings, as another fact; of what it
// was before nothing is left.
func TestAgain(t *testing.T) {
	h := of(t, "a(x: ?n) a(y: ?n)")
	h.wantLeft(1, "n 1", true)
	h.wantRight(fact(1, 0, "1 1"), 1)
	h.wantUnleft(1, false)
	h.wantLeft(1, "n 2", true)
	h.wantUnleft(1, true)
	h.wantLeft(1, "", false)
	h.wantUnright(1, 1)
	h.wantRight(fact(1, 0, "7 7"), 1)
	h.wantUnright(1, 1)
	h.wantRight(fact(1, 1, "7 7 7"))
	h.twiceRight(fact(1, 0, "7 7"))
	h.wantUnright(1)
	h.wantRight(fact(2, 0, "3 3"), 1)
	h.wantRight(fact(1, 0, "3 3"))
	h.wantRows(1, 4)
	h.wantUnleft(1, false)
	h.wantUnright(2)
	h.wantLeft(1, "n 3", false)
	h.wantUnright(1, 1)
}

// P24.1, P24.2: any numbers, also the same ones on both sides, which are told rising.
func TestNumbers(t *testing.T) {
	h := of(t, "a() a()")
	ids := []int{0, -1, 1, math.MaxInt, math.MinInt, 1 << 32, -1 << 32, 200, 2, 1<<32 + 1, 9, 3}
	rising := slices.Sorted(slices.Values(ids))
	for _, id := range ids {
		h.wantLeft(id, "", true)
	}
	h.wantAll(rising...)
	for i, id := range ids {
		if i == 0 {
			h.wantRight(fact(id, 0, "1 1"), rising...)
		} else {
			h.wantRight(fact(id, 0, "1 1"))
		}
	}
	h.wantAll()
	for _, id := range ids {
		h.wantRows(id, len(ids)*len(ids))
		h.twiceLeft(id, "")
		h.twiceRight(fact(id, 1, ""))
	}
	last := len(ids) - 1
	for _, id := range ids[:last] {
		h.wantUnright(id)
	}
	h.wantUnright(ids[last], rising...)
	for i, id := range ids {
		h.wantUnleft(id, true)
		h.wantAll(slices.Sorted(slices.Values(ids[i+1:]))...)
	}
}

// P24.2: of lefts of which none, some, all are on; of such as are not there, or went.
func TestOnAllRows(t *testing.T) {
	h := of(t, "a(x: ?n) b(x: ?n)")
	h.wantAll()
	h.wantRight(fact(5, 0, "1 1"))
	h.wantRight(fact(6, 1, "1 1 1"))
	h.wantAll()
	h.wantLeft(7, "n 1", false)
	h.wantAll()
	h.wantLeft(9, "n 2", true)
	h.wantLeft(8, "n 2", true)
	h.wantAll(8, 9)
	for _, id := range append(far(), 5, 6, 10) {
		if h.group.On(id) || h.group.Rows(id) != 0 {
			t.Error(id, h.group.On(id), h.group.Rows(id))
		}
	}
	if h.group.On(7) || !h.group.On(8) || !h.group.On(9) {
		t.Error(h.group.On(7), h.group.On(8), h.group.On(9))
	}
	h.wantUnright(5, 7)
	h.wantAll(7, 8, 9)
	h.wantRight(fact(5, 0, "2 1"))
	h.wantRight(fact(7, 1, "2 1 1"), 8, 9)
	h.wantUnleft(7, true)
	h.wantUnleft(8, false)
	h.wantAll()
	for _, id := range []int{7, 8} {
		if h.group.On(id) || h.group.Rows(id) != 0 {
			t.Error(id, h.group.On(id), h.group.Rows(id))
		}
	}
}

// P24.2: the same lefts and rights in another order have the same rows; one that
// comes and goes leaves all as it was.
func TestOrders(t *testing.T) {
	vars := map[int]string{1: "", 2: "m 4", 3: "n 2", 4: "n 1 m 9"}
	facts := []api.Fact{fact(1, 0, "1 5"), fact(2, 0, "2 6"), fact(3, 1, "1 5 2"), fact(4, 0, "1 4")}
	for shift := range 8 {
		for _, step := range []int{1, 3, 5, 7} {
			h := of(t, "a(x: ?n, y: ?m) b(y: <= ?m) a(x: ?n)")
			for i := range 8 {
				if n := (i*step + shift) % 8; n < 4 {
					h.left(n+1, bindings(vars[n+1]))
				} else {
					h.right(facts[n-4])
				}
			}
			for range 2 {
				h.wantRows(1, 3, 0, 1, 0)
				h.wantAll(2, 4)
				h.wantLeft(7, "m 9", true)
				h.wantLeft(8, "m 6", false)
				h.wantRight(fact(9, 1, "1 4 7"), 2)
				h.wantRows(1, 8, 2, 2, 0)
				h.wantUnleft(8, false)
				h.wantUnright(9, 2)
				h.wantUnleft(7, true)
			}
			for i := range 8 {
				if n := (i*step + shift + 3) % 8; n < 4 {
					h.unleft(n + 1)
				} else {
					h.unright(n - 3)
				}
			}
			h.wantAll()
			h.wantRows(1, 0, 0, 0, 0)
		}
	}
}

// counts tells how much a group keeps: on the left and on the right of the first
// link, and of beginnings of rows.
func counts(g *Group) [3]int {
	n := [3]int{len(g.rows), len(g.links[0].join.Rights()), 0}
	for i, l := range g.links {
		n[2] += len(l.numbers)
		if i > 0 {
			n[2] += len(l.owners) + len(l.join.Lefts())
		}
	}
	return n
}

// What follows: behind the last Unleft, or the last Unright, there are no rows, and
// nothing is kept of any, nor of what was refused.
func TestNothingIsKept(t *testing.T) {
	for _, s := range []string{"a(x: ?n)", "a() a()", "a(x: ?n) a(y: ?n) a(x: ?n)", "a(x: ?n) d() a()"} {
		for _, leftsFirst := range []bool{true, false} {
			h := of(t, s)
			for id := range 3 {
				h.left(id, nil)
				h.left(id, bindings("n 1"))
				h.right(fact(id, 0, "1 1"))
				h.right(fact(id, 1, "1 1"))
			}
			goLefts := func() {
				for id := range 3 {
					h.unleft(id)
					h.unleft(id)
				}
			}
			goRights := func() {
				for id := range 3 {
					h.unright(id)
					h.unright(id)
				}
			}
			half := [3]int{3, 0, 0}
			if leftsFirst {
				goLefts()
				half = [3]int{0, 3, 0}
			} else {
				goRights()
			}
			if n := counts(h.group); n != half {
				t.Error(s, leftsFirst, n)
			}
			goLefts()
			goRights()
			if n := counts(h.group); n != [3]int{} {
				t.Error(s, leftsFirst, n)
			}
			for _, l := range h.group.links {
				if len(l.owners) > 0 || len(l.join.Lefts()) > 0 || len(l.join.Rights()) > 0 {
					t.Error(s, leftsFirst, l.owners)
				}
			}
		}
	}
}

// P24.1: groups of the same patterns go their own ways.
func TestGroupsAreApart(t *testing.T) {
	g, h := of(t, "a(x: ?n) a(x: ?n)"), of(t, "a(x: ?n) a(x: ?n)")
	g.wantLeft(1, "", true)
	h.noLeft(1)
	h.wantRight(fact(1, 0, "1 1"))
	g.noRight(1)
	g.wantAll(1)
	h.wantLeft(1, "n 1", false)
	g.wantRight(fact(2, 0, "2 2"), 1)
	g.wantUnleft(1, false)
	h.wantRows(1, 1)
}

// Rules that hold everywhere: what is told shares no memory, of one call or of
// several, and stays what it was.
func TestMemory(t *testing.T) {
	g := New(usual(), patterns(t, "a(x: ?n) a(x: ?n)"))
	for _, id := range []int{2, 3, 1} {
		g.Left(id, bindings("k 3"))
	}
	lists := [][]int{g.All(), g.All()}
	for range 2 {
		come, _ := g.Right(fact(5, 0, "1 2"))
		gone, _ := g.Unright(5)
		lists = append(lists, come, gone)
	}
	var all []span
	for _, l := range lists {
		all = append(all, spans(l)...)
	}
	if !areApart(all) {
		t.Error("memory is shared")
	}
	for i, l := range lists {
		if !slices.Equal(l, []int{1, 2, 3}) {
			t.Error(i, l)
		}
		clear(l[:cap(l)])
		_ = append(l, 7)
	}
	if l := g.All(); !slices.Equal(l, []int{1, 2, 3}) {
		t.Error(l)
	}
	if l, _ := g.Right(fact(5, 0, "1 2")); !slices.Equal(l, []int{1, 2, 3}) {
		t.Error(l)
	}
}

// P24.1, P24.2: many lefts, rights and rows.
func TestMany(t *testing.T) {
	const many = 200
	g := New(usual(), patterns(t, "a(x: ?n, y: > ?m) b(x: ?n)"))
	var ids []int
	for i := range many {
		ids = append(ids, i)
		if on, e := g.Left(i*7%many, bindings("m 1")); !on || e != api.OK {
			t.Fatal(i, on, e)
		}
	}
	for i := range 20 {
		if l, e := g.Right(fact(i, 0, "3 2")); len(l) > 0 || e != api.OK {
			t.Fatal(i, len(l), e)
		}
	}
	for i := range 20 {
		if l, e := g.Right(fact(100+i*9%20, 1, "3 2 1")); e != api.OK || (len(l) > 0) != (i == 0) || i == 0 && !slices.Equal(l, ids) {
			t.Fatal(i, len(l), e)
		}
		if n := g.Rows(i); n != 20*(i+1) {
			t.Fatal(i, n)
		}
	}
	for i := range 20 {
		if l, e := g.Unright(i * 11 % 20); e != api.OK || (len(l) > 0) != (i == 19) || i == 19 && !slices.Equal(l, ids) {
			t.Fatal(i, len(l), e)
		}
	}
}

// P24.2: a left has as many rows as rights stand at each pattern in all ways.
func TestManyRows(t *testing.T) {
	g := New(usual(), patterns(t, "a() a() a() a()"))
	g.Left(1, nil)
	for i := range 12 {
		l, e := g.Right(fact(i, 0, "1 1"))
		if n := g.Rows(1); n != (i+1)*(i+1)*(i+1)*(i+1) || (len(l) > 0) != (i == 0) || e != api.OK {
			t.Fatal(i, n, l, e)
		}
	}
	if on, e := g.Unleft(1); on || e != api.OK || g.Rows(1) != 0 {
		t.Error(on, e, g.Rows(1))
	}
}

// P1: great templates, patterns, facts, bindings and lists of patterns.
func TestGreat(t *testing.T) {
	const many = 1000
	ts := usual()
	ts[0].Slots = slices.Repeat(ts[0].Slots, many)
	l := patterns(t, "a(x: ?n, y: > ?m) a(x: ?n)")
	for i := range l {
		l[i].Slots = slices.Repeat(l[i].Slots, many)
	}
	g := New(ts, l)
	g.Left(1, append(slices.Repeat(bindings("k 3"), many), bindings("m 1")...))
	if l, e := g.Right(fact(5, 0, "7 3 "+strings.Repeat("1 ", many))); e != api.OK || !slices.Equal(l, []int{1}) {
		t.Error(l, e)
	}
	g = New(usual(), slices.Repeat(patterns(t, "a(x: ?n)"), 3*many))
	g.Left(1, nil)
	for range 2 {
		if l, e := g.Right(fact(5, 0, "7 3")); e != api.OK || !slices.Equal(l, []int{1}) || g.Rows(1) != 1 {
			t.Error(l, e)
		}
		if l, e := g.Unright(5); e != api.OK || !slices.Equal(l, []int{1}) || g.Rows(1) != 0 {
			t.Error(l, e)
		}
	}
}

// P1: a group that is not there, or was not made.
func TestNotMade(t *testing.T) {
	for _, g := range []*Group{nil, {}, new(Group), New(usual(), nil)} {
		for _, id := range far() {
			for range 2 {
				for _, vars := range [][]api.Binding{nil, bindings("n 1")} {
					if on, e := g.Left(id, vars); on || e != api.ErrNil {
						t.Error("Left", on, e)
					}
				}
				for _, f := range []api.Fact{{ID: id}, fact(id, 0, "1 2"), fact(id, -1, "")} {
					if l, e := g.Right(f); l != nil || e != api.ErrNil {
						t.Error("Right", l, e)
					}
				}
				if on, e := g.Unleft(id); on || e != api.ErrNil {
					t.Error("Unleft", on, e)
				}
				if l, e := g.Unright(id); l != nil || e != api.ErrNil {
					t.Error("Unright", l, e)
				}
				if g.On(id) || g.Rows(id) != 0 {
					t.Error("On", id, g.On(id), g.Rows(id))
				}
			}
		}
		if l := g.All(); l != nil {
			t.Error("All", l)
		}
	}
}
